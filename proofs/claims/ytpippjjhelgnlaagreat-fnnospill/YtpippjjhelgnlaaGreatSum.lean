/-
  The sum of bytes: by the specification and by the program, the same. Condition: at most 3000000 bytes.
-/
import Derived.Test.YtpippjjhelgnlaaGreatDrawKR
set_option linter.unusedVariables false
set_option linter.unusedSimpArgs false
set_option maxRecDepth 100000
set_option maxHeartbeats 8000000
namespace Go.Proofs.YtpippjjhelgnlaaGreat.Gen
open ChangeShapes WideShapes ChangeAt RowKit Joins Deep Base
def Qfp (p:Nat × Nat) (b:UInt8):Nat × Nat:=((p.1+b.toNat) % 65521,(p.2+(p.1+b.toNat) % 65521) % 65521)
def sumP (l:List UInt8):Nat × Nat:=l.foldl Qfp (1,0)
def sumN (l:List UInt8):Nat:=(sumP l).2*65536+(sumP l).1
theorem Qis {l:List UInt8} {n:Nat} (h:n<l.length):sumP (l.take (n+1))=Qfp (sumP (l.take n)) l[n]:=by
 unfold sumP;rw[List.take_succ_eq_append_getElem h,List.foldl_append];rfl
theorem sumStep_lt (p:Nat × Nat) (b:UInt8):(Qfp p b).1<65521/\(Qfp p b).2<65521:=⟨Nat.mod_lt _ (by omega),Nat.mod_lt _ (by omega)⟩
theorem Qhq:∀(l:List UInt8) (p:Nat × Nat),p.1<65521/\p.2<65521->(l.foldl Qfp p).1<65521/\(l.foldl Qfp p).2<65521
 | [],p,h=>h
 |b::l,p,_=>Qhq l _ (sumStep_lt p b)
theorem sumP_lt (l:List UInt8):(sumP l).1<65521/\(sumP l).2<65521:=Qhq l (1,0) ⟨by omega,by omega⟩
theorem Qkf (l:List UInt8):sumN l<4294967296:=by unfold sumN;have:=sumP_lt l;omega
theorem Qki (A:Option Addr) (cap:Nat) (l:List UInt8) (hl:l.length<=3000000) (w:World) (hA:At w A l):
 Calls Tryz.prog 23 #[.slice A l.length cap] w fun e w' =>e= .returned (.int .i64 (sumN l:Int))/\w' =w:=by
 have HA:=hidP hA;clear hA;go_enter Tryz.func23,Tryz.ntmps23;go_wp2
 go_loopw [3,4,5] (fun vx vy vi W=>∃(n x y:Nat),vi= .int .i64 (n:Int)/\vx= .int .i64 (x:Int)/\vy= .int .i64 (y:Int)/\n<=l.length/\x<65521/\y<65521/\Hid (sumP (l.take n)=(x,y))/\W=w) (fun _ _ vi _=>l.length - (intOf vi).toNat)
 case atStart=>exact⟨0,1,0,rfl,rfl,rfl,by omega,by omega,by omega,rfl,rfl⟩
 case round=>
  obtain⟨n,x,y,rfl,rfl,rfl,hn,hx,hy,hs,rfl⟩:=hrel;by_cases hlt:n<l.length
  . obtain⟨b,o,rfl,hbs,hIn⟩:∃b o,A=some ⟨b,o,none⟩/\b<wr.heap.size/\In wr b o l:=by
     rcases HA.out with h|h
     . subst h;simp at hlt
     . exact h
    have c0:=hIn.getB n hlt;have hst:Hid (sumP (l.take (n+1))=((x+l[n].toNat) % 65521,(y+(x+l[n].toNat) % 65521) % 65521)):=(by show _=_;rw[Qis hlt,hs.out];rfl);have hd2:(l[n]).toNat<256:=(l[n]).toNat_lt;generalize (l[n]).toNat=d at*;clear hIn hs;go_wp2;refine⟨⟨n+1,(x+d) % 65521,(y+(x+d) % 65521) % 65521,by go_num,?_,?_,by omega,by omega,by omega,hst,trivial⟩,by simp[intOf];omega⟩
    . show Value.int .i64 _=Value.int .i64 _;congr 1
    . show Value.int .i64 _=Value.int .i64 _;congr 1
  . have e:l.take n=l:=List.take_of_length_le (by omega);have hs' :Hid ((sumN l:Int)=(y:Int) *65536+(x:Int)):=by
     show _=_;have h:=hs.out;rw[e]at h;unfold sumN;rw[h];simp
    go_wp2;go_ret;exact⟨by rw[hs'.out];rfl,rfl⟩
theorem Qg6 (A:Option Addr) (cap:Nat) (l:List UInt8) (hl:l.length<=3000000) (w:World) (hA:At w A l):
 Calls Tryz.prog 22 #[.slice A l.length cap] w fun e w' =>e= .returned (.int .i64 (sumN l:Int))/\w' =w:=by
 have HA:=hidP hA;clear hA;go_enter Tryz.func22,Tryz.ntmps22;go_wp2
 go_loopw [3,4,9] (fun vx vy vi W=>∃(n x y:Nat),vi= .int .i64 (n:Int)/\vx= .int .i64 (x:Int)/\vy= .int .i64 (y:Int)/\n<=l.length/\x<65521/\y<65521/\Hid (sumP (l.take n)=(x,y))/\W=w) (fun _ _ vi _=>l.length - (intOf vi).toNat)
 case atStart=>exact⟨0,1,0,rfl,rfl,rfl,by omega,by omega,by omega,rfl,rfl⟩
 case round=>
  obtain⟨n,x,y,rfl,rfl,rfl,hn,hx,hy,hs,rfl⟩:=hrel;by_cases hlt:n<l.length
  . obtain⟨b,o,rfl,hbs,hIn⟩:∃b o,A=some ⟨b,o,none⟩/\b<wr.heap.size/\In wr b o l:=by
     rcases HA.out with h|h
     . subst h;simp at hlt
     . exact h
    have c0:=hIn.getB n hlt;have hst:Hid (sumP (l.take (n+1))=((x+l[n].toNat) % 65521,(y+(x+l[n].toNat) % 65521) % 65521)):=(by show _=_;rw[Qis hlt,hs.out];rfl);have hd2:(l[n]).toNat<256:=(l[n]).toNat_lt;generalize (l[n]).toNat=d at*;clear hIn hs;go_wp2;refine⟨⟨n+1,(x+d) % 65521,(y+(x+d) % 65521) % 65521,by go_num,?_,?_,by omega,by omega,by omega,hst,trivial⟩,by simp[intOf];omega⟩
    . show Value.int .i64 _=Value.int .i64 _;congr 1
    . show Value.int .i64 _=Value.int .i64 _;congr 1
  . have e:l.take n=l:=List.take_of_length_le (by omega);have hs' :Hid ((sumN l:Int)=(y:Int) *65536+(x:Int)):=by
     show _=_;have h:=hs.out;rw[e]at h;unfold sumN;rw[h];simp
    go_wp2;go_ret;exact⟨by rw[hs'.out];rfl,rfl⟩
end Go.Proofs.YtpippjjhelgnlaaGreat.Gen
namespace Go.Proofs.YtpippjjhelgnlaaGreat.Gen
open ChangeShapes WideShapes ChangeAt RowKit Joins Deep Base
def sumB:Nat->Nat->List UInt8
  |0,_=> []
  |k+1,n=>UInt8.ofNat (n % 256)::sumB k (n / 256)
theorem Qb1:∀k n,(sumB k n).length=k
 |0,_=>rfl
 |k+1,n=>by simp[sumB,Qb1 k]
theorem sum_bytes (n:Nat) (hn:n<4294967296):flat (sumB 4 n)= [.int .u8 ((n:Int) % 256),.int .u8 ((n:Int) / 256 % 256),.int .u8 ((n:Int) / 65536 % 256),.int .u8 ((n:Int) / 16777216)]:=by
 have h (m:Nat):(Value.int .u8 ((UInt8.ofNat (m % 256)).toNat:Int))= .int .u8 ((m % 256:Nat):Int):=by
  congr 1;rw[UInt8.toNat_ofNat'];omega
 show [Value.int .u8 ((UInt8.ofNat (n % 256)).toNat:Int),Value.int .u8 ((UInt8.ofNat (n / 256 % 256)).toNat:Int),Value.int .u8 ((UInt8.ofNat (n / 256 / 256 % 256)).toNat:Int),Value.int .u8 ((UInt8.ofNat (n / 256 / 256 / 256 % 256)).toNat:Int)]=_;rw[h,h,h,h];simp only[List.cons.injEq,Value.int.injEq,true_and,and_true];refine⟨by omega,by omega,by omega,by omega⟩
theorem Qg3 (A:Option Addr) (cap:Nat) (l:List UInt8) (hl:l.length<=3000000) (w:World) (hA:At w A l):
 Calls Tryz.prog 66 #[.slice A l.length cap] w fun e w' =>e= .returned (.slice (some ⟨w.heap.size,0,none⟩) 4 4)/\Below w.heap.size w w' /\At w' (some ⟨w.heap.size,0,none⟩) (sumB 4 (sumN l)):=by
 have HA:=hidP hA;have hs:=Qkf l;clear hA;go_enter Tryz.func66,Tryz.ntmps66;go_wp2_with fail;refine(Qki A cap l hl _ HA.out).mono ?_;rintro e w1 ⟨rfl,rfl⟩;have hfl:=hidP (sum_bytes (sumN l) hs);generalize hN:sumN l=n at*;have HN:=hidP hN;clear hN;go_wp2;go_ret;refine⟨rfl,Qad (Below.refl _ _) _,?_⟩;refine newL _ _ _ _ ?_;rw[HN.out,hfl.out]
end Go.Proofs.YtpippjjhelgnlaaGreat.Gen
namespace Go.Proofs.YtpippjjhelgnlaaGreat.Gen
open ChangeShapes WideShapes ChangeAt RowKit Joins Deep Base
def enB (x:En):List UInt8:=numI x.term++cmB x.who x.seq x.op x.a x.b x.c x.key x.text
def ensB (l:List En):List UInt8:=numI (l.length:Int)++l.flatMap enB
def Qcu (kind term vote prev:Int) (l:List En) (snap:ByteArray):List UInt8:=Qbj [kind,term,vote+1,prev]++(ensB l++txtB snap)
def Qcc (L:List UInt8):List UInt8:=numB L.length++(L++sumB 4 (sumN L))
structure EnR (x:En):Prop where
  term:0<=x.term/\x.term<=2147483647
  cm:CmR x.who x.seq x.op x.a x.b x.c x.key x.text
theorem enB_le {x:En} (h:EnR x):(enB x).length<=105:=by
 have h1:=Qbn x.term;have h2:=cmB_le h.cm;simp only[enB,List.length_append];omega
theorem ensB_le {l:List En} (h:∀x∈l,EnR x):(ensB l).length<=5+105*l.length:=by
 have h1:=Qbn (l.length:Int);have h2:=Qdn enB 105 l (fun x hx=>enB_le (h x hx));simp only[ensB,List.length_append];omega
theorem entry_any (P:Nat->Prop) (z:Nat) (x:En) (hR:EnR x) (xs:List UInt8) (hx:xs.length<=1800000) (w:World) (hW:Wr P z w xs):
 Calls Tryz.prog 135 #[.pointer (some ⟨z,0,none⟩),.agg (Qbr x.term x.who x.seq x.op x.a x.b x.c x.key x.text)] w fun e w' =>e= .returned (.tuple #[])/\Turn P w w' /\Wr P z w' (xs++enB x):=by
 have H0:=hidP (hW.keep (.cells (Qbr x.term x.who x.seq x.op x.a x.b x.c x.key x.text) 112));have T0:Hid (Turn P w (w.alloc (.cells (Qbr x.term x.who x.seq x.op x.a x.b x.c x.key x.text) 112))):=hidP (Turn.of_below (Qad (Below.refl _ w) _) hW.lt);have p0:=Blk.new w 112 (Qbr x.term x.who x.seq x.op x.a x.b x.c x.key x.text);have Hp0:=hidP p0;have hnl:=Qbn x.term;clear hW p0;go_enter Tryz.func135,Tryz.ntmps135;go_wp2_with fail;refine(Qgx (fun k=>P k∨k=w.heap.size) z (x.term) (hR.term) _ (by omega) _ H0.out).mono ?_;rintro e w1 ⟨rfl,t1,h1⟩;have Hp1:=hidP (Hp0.out.turn t1 (.inr rfl));have T1:=hidP (T0.out.trans (t1.mono (fun k hk=> .inl hk)));have H1:=hidP h1;clear t1 h1 H0 T0 Hp0;have d0:w1.cell? ⟨w.heap.size,0,none⟩=some (.int .i64 x.term):=Hp1.out.cell (i:=0) rfl;have d1:w1.cell? ⟨w.heap.size,1,none⟩=some (.int .i64 x.who):=Hp1.out.cell (i:=1) rfl;have d2:w1.cell? ⟨w.heap.size,2,none⟩=some (.int .i64 x.seq):=Hp1.out.cell (i:=2) rfl;have d3:w1.cell? ⟨w.heap.size,3,none⟩=some (.int .i64 x.op):=Hp1.out.cell (i:=3) rfl;have d4:w1.cell? ⟨w.heap.size,4,none⟩=some (.int .i64 x.a):=Hp1.out.cell (i:=4) rfl;have d5:w1.cell? ⟨w.heap.size,5,none⟩=some (.int .i64 x.b):=Hp1.out.cell (i:=5) rfl;have d6:w1.cell? ⟨w.heap.size,6,none⟩=some (.int .i64 x.c):=Hp1.out.cell (i:=6) rfl;have d7:w1.cell? ⟨w.heap.size,7,none⟩=some (.string x.key):=Hp1.out.cell (i:=7) rfl;have d8:w1.cell? ⟨w.heap.size,8,none⟩=some (.string x.text):=Hp1.out.cell (i:=8) rfl;have qb:=Hp1.out.lt;go_wp2_with fail;refine(cmd_any (fun k=>P k∨k=w.heap.size) z x.who x.seq x.op x.a x.b x.c x.key x.text hR.cm _ (by rw[List.length_append];omega) _ H1.out).mono ?_;rintro e w2 ⟨rfl,t2,h2⟩;have T2:=hidP (T1.out.trans (t2.mono (fun k hk=> .inl hk)));have H2:=hidP h2;clear t2 h2 H1 T1 Hp1 d0 d1 d2 d3 d4 d5 d6 d7 d8 qb;go_wp2
 go_end0
 refine⟨rfl,T2.out,?_⟩;have:=H2.out.mono (Q:=P) (fun k hk=> .inl hk);simpa only[enB,List.append_assoc]using this
theorem Qf2 (P:Nat->Prop) (z:Nat) (A:Option Addr) (cap:Nat) (L:List En) (hl:L.length<=1000) (hR:∀y∈L,EnR y) (xs:List UInt8) (hx:xs.length<=1000000) (w:World) (hA:Pt P w A L) (hW:Wr P z w xs):
 Calls Tryz.prog 134 #[.pointer (some ⟨z,0,none⟩),.slice A L.length cap,.func (.func 135) #[] #[]] w fun e w' =>e= .returned (.tuple #[])/\Turn P w w' /\Wr P z w' (xs++ensB L):=by
 have HA:=hidP hA;have HW:=hidP hW;have HR:=hidP hR;have hnl:=Qbn (L.length:Int);have Hfl:=hidP (Qdn enB 105 L (fun x hx=>enB_le (hR x hx)));clear hA hW hR;go_enter Tryz.func134,Tryz.ntmps134;go_wp2_with fail;refine(Qgx P z (L.length:Int) (by omega) xs (by omega) _ HW.out).mono ?_;rintro e w0 ⟨rfl,t0,h0⟩;have T0:=hidP t0;have H0:=hidP h0;clear t0 h0 HW;go_wp2
 go_loopw [14] (fun i W=>∃(n:Nat),i= .int .i64 (n:Int)/\n<=L.length/\Hid (Turn P w W)/\Hid (Wr P z W (xs++numI (L.length:Int)++(L.take n).flatMap enB))) (fun i _=>L.length - (intOf i).toNat)
 case atStart=>exact⟨0,rfl,by omega,T0,by simpa using H0⟩
 case round=>
  obtain⟨n,rfl,hn,hT,hO⟩:=hrel;by_cases hlt:n<L.length
  . obtain⟨b,o,rfl,hbs,hin⟩:∃b o,A=some ⟨b,o,none⟩/\b<w.heap.size/\In w b o L:=by
     rcases HA.out.1 with h|h
     . subst h;simp at hlt
     . exact h
    have hPb:∀b' o',some (⟨b,o,none⟩:Addr)=some ⟨b',o',none⟩->P b' :=by
     rcases HA.out.2 with h|h
     . subst h;simp at hlt
     . exact h
    obtain⟨c0,c1,c2,c3,c4,c5,c6,c7,c8⟩:=(hin.turn hT.out (hPb b o rfl)).getEn n hlt;have hi0:(0:Int)<=(n:Int):=(by omega);have hi1:(n:Int)<(L.length:Int):=(by omega);have hRx:=HR.out L[n] (List.getElem_mem hlt);have hto:=hidP (Qj2 enB hlt);have hle:=Qf0 enB L n;have hbd:Hid ((xs++numI (L.length:Int)++(L.take n).flatMap enB).length<=1800000):=by
     show _<=_;have:=Hfl.out;simp only[List.length_append];omega
    clear hin hle;generalize L[n]=x at*;generalize (L.take n).flatMap enB=ys at*;generalize xs++numI (L.length:Int)=zs at*;have Hwr:=hidP (hO.out.below (Qad (Below.refl _ wr) (.cells (Qbr x.term x.who x.seq x.op x.a x.b x.c x.key x.text) 112)));have hTa:=hidP (hT.out.trans (Turn.of_below (Qad (Below.refl _ wr) (.cells (Qbr x.term x.who x.seq x.op x.a x.b x.c x.key x.text) 112)) hO.out.lt));clear hO;go_wp2_with fail;refine(entry_any P z x hRx _ hbd.out _ Hwr.out).mono ?_;rintro e w1 ⟨rfl,t1,h1⟩;have HT1:=hidP (hTa.out.trans t1);rw[List.append_assoc,← hto.out]at h1;have H1:=hidP h1;clear t1 h1 hT hTa Hwr;go_wp2;exact⟨⟨n+1,by go_num,by omega,HT1,H1⟩,by simp[intOf];omega⟩
  . obtain rfl:n=L.length:=(by omega);rw[List.take_length]at hO;go_wp2
    go_end0
    refine⟨rfl,hT.out,?_⟩;have:=hO.out;simpa only[ensB,List.append_assoc]using this
theorem wnote_any (P:Nat->Prop) (z:Nat) (kind term vote prev:Int) (snap:ByteArray) (A:Option Addr) (cap:Nat) (l:List En) (hk:0<=kind/\kind<=3) (ht:0<=term/\term<=300) (hv: -1<=vote/\vote<=4) (hp:0<=prev/\prev<=300) (hs:snap.size<=30000) (hl:l.length<=40) (hR:∀y∈l,EnR y) (w:World) (hA:Pt P w A l) (hW:Wr P z w []):
 Calls Tryz.prog 60 #[.pointer (some ⟨z,0,none⟩),.agg (Qah kind term vote prev A l.length cap snap)] w fun e w' =>e= .returned (.tuple #[])/\Turn P w w' /\Wr P z w' (Qcu kind term vote prev l snap):=by
 have H0:=hidP (hW.keep (.cells (Qah kind term vote prev A l.length cap snap) 44));have T0:Hid (Turn P w (w.alloc (.cells (Qah kind term vote prev A l.length cap snap) 44))):=hidP (Turn.of_below (Qad (Below.refl _ w) _) hW.lt);have p0:=Blk.new w 44 (Qah kind term vote prev A l.length cap snap);have Hp0:=hidP p0;have HA:=hidP hA;have HR:=hidP hR;have hn4:=Qb5 [kind,term,vote+1,prev];simp only[List.length_cons,List.length_nil]at hn4;have hle:=ensB_le hR;clear hW p0 hA hR;go_enter Tryz.func60,Tryz.ntmps60;have hat:=newL (w.alloc (.cells (Qah kind term vote prev A l.length cap snap) 44)) ([kind,term,vote+1,prev]:List Int) (Qal kind term (vote+1) prev) 3 rfl;have hwr:=H0.out.keep (.cells (Qal kind term (vote+1) prev) 3);have pz:=Hp0.out.alloc (.cells (Qal kind term (vote+1) prev) 3);have tk:Turn (fun k=>P k∨k=w.heap.size) (w.alloc (.cells (Qah kind term vote prev A l.length cap snap) 44)) ((w.alloc (.cells (Qah kind term vote prev A l.length cap snap) 44)).alloc (.cells (Qal kind term (vote+1) prev) 3)):=Turn.of_below (Qad (Below.refl _ _) _) H0.out.lt;simp only[World.size_alloc]at hat hwr;have Hat:=hidP hat;have Hwr:=hidP hwr;have Hpz:=hidP pz;have Htk:=hidP tk;clear hat hwr pz tk;go_wp2_with fail;refine(Qgw (fun k=>(P k∨k=w.heap.size)∨k=w.heap.size+1) z (some ⟨w.heap.size+1,0,none⟩) 4 [kind,term,vote+1,prev] (by simp) (by simp;omega) _ (by simp) _ Hat.out (.inr fun k o e=>by cases e;exact .inr rfl) Hwr.out).mono ?_;rintro e w1 ⟨rfl,t1,h1⟩;have Hp1:=hidP (Hpz.out.turn t1 (.inl (.inr rfl)));have T1:=hidP (T0.out.trans ((Htk.out.trans (t1.mono (fun k hk=> .inl hk))).mono (fun k hk=> .inl hk)));have H1:=hidP (h1.mono (Q:=(fun k=>P k∨k=w.heap.size)) (fun k hk=> .inl hk));clear Hat Hwr Hpz Htk t1 h1 H0 T0 Hp0
 have d4:w1.cell? ⟨w.heap.size,4,none⟩=some (.slice A l.length cap):=Hp1.out.cell (i:=4) rfl;have qb:=Hp1.out.lt;go_wp2_with fail;refine(Qf2 (fun k=>P k∨k=w.heap.size) z A cap l (by omega) HR.out _ (by rw[List.length_append];simp only[List.length_nil];omega) _ ((HA.out.turn T1.out).mono (fun k hk=> .inl hk)) H1.out).mono ?_;rintro e w2 ⟨rfl,t2,h2⟩;have Hp2:=hidP (Hp1.out.turn t2 (.inr rfl));have T2:=hidP (T1.out.trans (t2.mono (fun k hk=> .inl hk)));have H2:=hidP h2;clear t2 h2 H1 T1 Hp1 d4 qb;have d5:w2.cell? ⟨w.heap.size,5,none⟩=some (.string snap):=Hp2.out.cell (i:=5) rfl;have qb:=Hp2.out.lt;go_wp2_with fail;refine(Qe6 (fun k=>P k∨k=w.heap.size) z snap _ (by simp only[List.length_append,List.length_nil];omega) _ H2.out).mono ?_;rintro e w3 ⟨rfl,t3,h3⟩;have T3:=hidP (T2.out.trans (t3.mono (fun k hk=> .inl hk)));have H3:=hidP h3;clear t3 h3 H2 T2 Hp2 d5 qb;go_wp2
 go_end0
 refine⟨rfl,T3.out,?_⟩;have:=H3.out.mono (Q:=P) (fun k hk=> .inl hk);simpa only[Qcu,txtB,List.append_assoc,List.nil_append]using this
theorem wsum_any (P:Nat->Prop) (b n:Nat) (hn:n<4294967296) (xs:List UInt8) (hx:xs.length<=500000000) (w:World) (hW:Wr P b w xs):
 Calls Tryz.prog 137 #[.pointer (some ⟨b,0,none⟩),.int .i64 (n:Int)] w fun e w' =>e= .returned (.tuple #[])/\Turn P w w' /\Wr P b w' (xs++sumB 4 n):=by
 have HW:=hidP hW;clear hW;go_enter Tryz.func137,Tryz.ntmps137;go_wp2
 go_loopw [1,4] (fun x i W=>∃(m k:Nat) (ys:List UInt8),x= .int .i64 (m:Int)/\i= .int .i64 (k:Int)/\k<=4/\m<4294967296/\Hid (ys++sumB (4 - k) m=xs++sumB 4 n)/\Hid (ys.length<=xs.length+4)/\Hid (Wr P b W ys)/\Hid (Turn P w W)) (fun _ i _=>4 - (intOf i).toNat)
 case atStart=>exact⟨n,0,xs,rfl,rfl,by omega,hn,rfl,Nat.le_add_right _ _,HW,Turn.refl _ _⟩
 case round=>
  obtain⟨m,k,ys,rfl,rfl,hk,hm,hy,hyl,hO,hT⟩:=hrel;by_cases hlt:k<4
  . have hlt' :(k:Int)<4:=(by omega);have hyl:ys.length<=600000000:=(by have:=hyl.out;omega);have hl2:Hid ((ys++ [UInt8.ofNat (m % 256)]).length<=xs.length+4):=by
     show _<=_;have h:=congrArg List.length hy.out;simp only[List.length_append,Qb1,List.length_cons,List.length_nil]at h ⊢;omega
    obtain⟨a,c,p,hv,h3,h4,h5⟩:=hO.out;have c0:=p.row1;have q0:=p.lt;have e8:((UInt8.ofNat (m % 256)).toNat:Int)=(m:Int) % 256:=(by rw[UInt8.toNat_ofNat'];omega);have he:Hid (ys++ [UInt8.ofNat (m % 256)]++sumB (4 - (k+1)) (m / 256)=xs++sumB 4 n):=by
     show _=_;rw[← hy.out,show 4 - k=(4 - (k+1))+1 by omega,sumB];simp
    obtain⟨a',c',W',hr,p',hW',hT'⟩:=Qkd (x:=UInt8.ofNat (m % 256)) e8 p hv h3 h4 h5 (by omega);have HW' :=hidP hW';have HT' :=hidP (hT.out.trans hT');have d0:=p'.row1;have f0:=p'.thaw 0;clear hW' hT' hv p p' e8 h3 h4 h5;go_wp2_with (at_builtin;refine Qac rfl _ _ _ rfl _ _ _ rfl rfl hr ?_);refine⟨⟨m / 256,k+1,ys++ [UInt8.ofNat (m % 256)],?_,by go_num,by omega,by omega,he,hl2,HW',HT'⟩,by simp[intOf];omega⟩;show Value.int .i64 _=Value.int .i64 _;congr 1
  . obtain rfl:k=4:=(by omega);have e:ys=xs++sumB 4 n:=(by have h:=hy.out;simpa [sumB]using h);go_wp2
    go_end0
    refine⟨rfl,hT.out,?_⟩;rw[← e];exact hO.out
theorem framed_any (P:Nat->Prop) (z:Nat) (A:Option Addr) (cap:Nat) (L:List UInt8) (hl:L.length<=3000000) (w:World) (hA:Pt P w A L) (hW:Wr P z w []):
 Calls Tryz.prog 62 #[.pointer (some ⟨z,0,none⟩),.slice A L.length cap] w fun e w' =>e= .returned (.tuple #[])/\Turn P w w' /\Wr P z w' (Qcc L):=by
 have HA:=hidP hA;have HW:=hidP hW;have hcv:(convert 22 9 (.slice A L.length cap)).run Tryz.prog w= .ok (.string ⟨L.toArray⟩) w:=by
  rcases hA.1 with h|⟨b,o,rfl,hb,hin⟩
  . subst h;cases A with
    |none=>rw[List.length_nil,run_convert_bytes_string w 22 9 5 none 0 cap Tryz.underlying22 Tryz.underlying5 Tryz.underlying9];simp[Conv.bytesToString,go_sem];rfl
    |some a=>
     have h:=run_convert_bytes_back (P:=Tryz.prog) w 22 9 5 a cap [] Tryz.underlying22 Tryz.underlying5 Tryz.underlying9 (fun j hj=>by simp at hj);simpa using h
  . exact run_convert_bytes_back (P:=Tryz.prog) w 22 9 5 ⟨b,o,none⟩ cap L Tryz.underlying22 Tryz.underlying5 Tryz.underlying9 (fun j hj=>by rw[Addr.add_mid];simpa using hin.getB j hj)
 have hsz:(⟨L.toArray⟩:ByteArray).size=L.length:=by show L.toArray.size=_;simp
 have hnb:=Qct (n:=L.length) (by omega);clear hA hW;go_enter Tryz.func62,Tryz.ntmps62;go_wp2_with fail;refine(Qe6 P z ⟨L.toArray⟩ [] (by rw[hsz];simp only[List.length_nil];omega) _ HW.out).mono ?_;rintro e w1 ⟨rfl,t1,h1⟩;rw[hsz]at h1;have T1:=hidP t1;have H1:=hidP h1;clear t1 h1 hcv;go_wp2_with fail;refine(Qg6 A cap L hl _ (HA.out.turn T1.out).1).mono ?_;rintro e w2 ⟨rfl,rfl⟩;go_wp2_with fail;refine(wsum_any P z (sumN L) (Qkf L) _ (by simp only[List.length_append,List.length_nil];omega) _ H1.out).mono ?_;rintro e w3 ⟨rfl,t3,h3⟩;have T3:=hidP (T1.out.trans t3);have H3:=hidP h3;clear t3 h3;go_wp2
 go_end0
 refine⟨rfl,T3.out,?_⟩;have:=H3.out;simpa only[Qcc,List.append_assoc,List.nil_append]using this
end Go.Proofs.YtpippjjhelgnlaaGreat.Gen
namespace Go.Proofs.YtpippjjhelgnlaaGreat.Gen
open ChangeShapes WideShapes ChangeAt RowKit Joins Deep Base
structure Jo (w W:World) (a:Option Addr) (c:Nat) (xs:List UInt8):Prop where
  bl:Below w.heap.size w W
  own:W.ownsRow w.heap.size 5 1 (.slice a xs.length c) xs.length (flat xs)
theorem Jo.app {w W W1:World} {a a1:Option Addr} {c c1:Nat} {xs ys:List UInt8} (h:Jo w W a c xs) (g:Below W.heap.size W W1) (hy:At W1 a1 ys) (hlen:xs.length+ys.length<=1000000000):
 ∃a2 c2 W2,(Builtin.append_ #[22,22] 22 #[.slice a xs.length c,.slice a1 ys.length c1]).run Tryz.prog W1= .ok (.slice a2 (xs++ys).length c2) W2/\Jo w W2 a2 c2 (xs++ys)/\(∀k t vs,W.heap.size<=k->Blk W1 k t vs->Blk W2 k t vs):=by
 have o1:=Qav h.own g;have b1:=via0 g h.bl;obtain⟨a2,c2,W2,hr,hown,hg⟩:=Qcn (c' :=c1) b1.size o1 hy hlen;refine⟨a2,c2,W2,hr,⟨b1.grown hg b1.size (fun j e=>Nat.le_of_not_lt fun q=>Qa7 o1 q e.symm),hown⟩,fun k t vs hk hb=> ?_⟩;exact(hg.block k hb.lt (fun e=>by have:=Qci h.own e.symm;omega)).trans hb
end Go.Proofs.YtpippjjhelgnlaaGreat.Gen
namespace Go.Proofs.YtpippjjhelgnlaaGreat.Gen
open ChangeShapes WideShapes ChangeAt RowKit Joins Deep Base
def enF (x:En):Bool:=CmdOk.okB x.who x.seq x.op x.a x.b x.c x.key x.text
theorem all_drop (f:En->Bool) (l:List En) (n:Nat) (hn:n<l.length):(l.drop n).all f=(f l[n]&&(l.drop (n+1)).all f):=by
 rw[List.drop_eq_getElem_cons hn];rfl
theorem in_le {x lo hi:Int} (h:inB x lo hi=true):lo<=x/\x<=hi:=by simpa [inB]using h
theorem Qe2 (x:Int) (w:World):Calls Tryz.prog 68 #[.int .i64 x] w fun e w' =>e= .returned (.bool (inB x 0 300))/\w' =w:=by
 go_enter Tryz.func68,Tryz.ntmps68;go_wp2_with (go_at_call 46;refine(Qc6 _ _ _ _).mono ?_;rintro e w' ⟨rfl,rfl⟩);go_ret;exact⟨rfl,rfl⟩
end Go.Proofs.YtpippjjhelgnlaaGreat.Gen
