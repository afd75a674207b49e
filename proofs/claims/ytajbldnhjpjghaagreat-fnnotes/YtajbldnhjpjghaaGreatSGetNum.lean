/-
  The specification's GetNum: the number that begins at a place, and the place behind it. Condition: at most 1048576 bytes.
-/
import Derived.Test.YtajbldnhjpjghaaGreatFps
import Derived.WalkSmall
import Derived.Lib.EndianBits
import Derived.BigQuiet
set_option linter.unusedVariables false
set_option linter.unusedSimpArgs false
set_option maxRecDepth 100000
set_option maxHeartbeats 8000000
set_option maxRecDepth 100000
set_option maxHeartbeats 8000000
namespace Go.Proofs.YtajbldnhjpjghaaGreat.Gen
open ChangeShapes WideShapes ChangeAt RowKit Joins Deep Base
def numT (o:Option (Nat × Nat)):Value:=match o with
  |some (n,c)=> .tuple (Qk3 (n:Int) (c:Int) true)
  |none=> .tuple Qjx
def rest (l:List UInt8) (i:Int) (k acc:Nat):Option (Nat × Nat):=if 0<=i then(getD (5 - k) k acc (l.drop (i.toNat+k))).map fun x=>(x.1,i.toNat+x.2)else none
theorem Qi6 (l:List UInt8) (i:Int):rest l i 0 0=getN l i:=rfl
theorem Qlk {l:List UInt8} {i:Int} {k acc:Nat} (h:i<0):rest l i k acc=none:=if_neg (by omega)
theorem Qi8 {l:List UInt8} {i:Int} {k acc:Nat} (h:(l.length:Int)<=i+(k:Int)):rest l i k acc=none:=by
 unfold rest;split
 . rw[Qo6 (by omega)];rfl
 . rfl
theorem Qi9 {l:List UInt8} {i:Int} {acc:Nat}:rest l i 5 acc=none:=by
 unfold rest;split<;>rfl
theorem Qi7 {l:List UInt8} {j k:Nat} (hk:k<5) (acc:Nat) (h:j+k<l.length):
 rest l (j:Int) k acc=if(l[j+k]).toNat<128 then(if(0<k/\(l[j+k]).toNat=0)∨2147483647<acc+(l[j+k]).toNat % 128*128 ^ k then none else some (acc+(l[j+k]).toNat % 128*128 ^ k,j+k+1))
  else rest l (j:Int) (k+1) (acc+(l[j+k]).toNat % 128*128 ^ k):=by
 unfold rest;have hj:(0:Int)<=(j:Int):=by omega
 simp only[hj,if_true];have e:5 - k=(5 - (k+1))+1:=by omega
 have e2:(j:Int).toNat=j:=by omega
 rw[e,e2,Qo8 h];split
 . split
   . rfl
   . simp;omega
 . rfl
theorem Qfy (n:Int) (h: -9223372036854775808<=n/\n<=9223372036854775807):wrap64 n=n:=by unfold wrap64;omega
theorem Qrz {k acc d:Nat} (hk:k<5) (hacc:acc<128 ^ k) (hd:d<256):bits .or .i64 (acc:Int) (wrap64 ((d:Int) % 128*2 ^ (7*k)))=((acc+d % 128*128 ^ k:Nat):Int):=by
 have hw:∀n:Int,0<=n->n<2 ^ 62->IntKind.i64.wrap n=n:=fun n h0 h1=>by
  have:IntKind.i64.wrap n=wrap64 n:=by simp[go_sem,wrap64,IntKind.wrap_i64]
  rw[this];exact Qfy n (by omega)
 have hk' :k=0∨k=1∨k=2∨k=3∨k=4:=by omega
 rcases hk' with rfl|rfl|rfl|rfl|rfl
 . rw[Qfy _ (by omega),bits_join_low .i64 62 (by decide) hw 0 _ _ (by omega) (by omega) (by omega) (by omega) (by omega) (by omega)];omega
 . rw[Qfy _ (by omega),bits_join_low .i64 62 (by decide) hw 7 _ _ (by omega) (by omega) (by omega) (by omega) (by omega) (by omega)];omega
 . rw[Qfy _ (by omega),bits_join_low .i64 62 (by decide) hw 14 _ _ (by omega) (by omega) (by omega) (by omega) (by omega) (by omega)];omega
 . rw[Qfy _ (by omega),bits_join_low .i64 62 (by decide) hw 21 _ _ (by omega) (by omega) (by omega) (by omega) (by omega) (by omega)];omega
 . rw[Qfy _ (by omega),bits_join_low .i64 62 (by decide) hw 28 _ _ (by omega) (by omega) (by omega) (by omega) (by omega) (by omega)];omega
theorem Ql9 {k acc d:Nat} (hk:k<5) (hacc:acc<128 ^ k) (hd:d<256):acc+d % 128*128 ^ k<128 ^ (k+1):=by
 have hk' :k=0∨k=1∨k=2∨k=3∨k=4:=by omega
 rcases hk' with rfl|rfl|rfl|rfl|rfl<;>omega
theorem Qpp {k acc:Nat} (hk:k<=5) (hacc:acc<128 ^ k):acc<34359738368:=by
 have hk' :k=0∨k=1∨k=2∨k=3∨k=4∨k=5:=by omega
 rcases hk' with rfl|rfl|rfl|rfl|rfl|rfl<;>omega
theorem Qdx (A:Option Addr) (cap:Nat) (l:List UInt8) (hl:l.length<=1048576) (i:Int) (hi:I64 i) (w:World) (hA:At w A l):
 Calls Tryz.prog 42 (l1SI A l.length cap i) w fun e w' =>e= .returned (numT (getN l i))/\w' =w:=by
 have HA:=hidP hA;have hi' :=hidP hi;clear hA hi;go_enter Tryz.func42,Tryz.ntmps42;go_wp2
 go_loopw [7,8] (fun v7 v8 W=>∃(k acc:Nat),v7= .int .i64 (acc:Int)/\v8= .int .i64 (k:Int)/\k<=5/\Hid (acc<128 ^ k)/\W=w/\Hid (getN l i=rest l i k acc)) (fun _ v8 _=>5 - (intOf v8).toNat)
 case atStart=>exact⟨0,0,rfl,rfl,by omega,by show 0<1;omega,rfl,Qi6 l i⟩
 case round=>
  obtain⟨k,acc,rfl,rfl,hk,hacc,rfl,hR⟩:=hrel;by_cases h5:k<5
  . have h5' :(k:Int)<5:=(by omega);by_cases h0:i<0
    . have hN:=hidP (hR.out.trans (Qlk h0));go_wp2;exact bodyPost_ret (v:= .tuple Qjx) (by simp[results,Tryz.results42,go_sem]) rfl ⟨by rw[hN.out];rfl,rfl⟩
    . obtain⟨j,rfl⟩:∃j:Nat,i=(j:Int):=⟨i.toNat,by omega⟩
      by_cases hp:j+k<l.length
      . obtain⟨b,o,rfl,hbs,hin⟩:∃b o,A=some ⟨b,o,none⟩/\b<wr.heap.size/\In wr b o l:=by
         rcases HA.out with h|h
         . subst h;simp at hp
         . exact h
        have c0:=hin.getB (j+k) hp;have hp1:¬((l.length:Int) - (k:Int)<=(j:Int)):=(by omega);have hp2:((j:Int)+(k:Int))<(l.length:Int):=(by omega);have hp3:(0:Int)<=(j:Int)+(k:Int):=(by omega);have hst:=hidP (Qi7 h5 acc hp);generalize hd:(l[j+k]).toNat=d at*;have hd2:d<256:=(by rw[← hd];exact(l[j+k]).toNat_lt);have hor:=Qrz h5 hacc.out hd2;have hnx:=hidP (Ql9 h5 hacc.out hd2);have hn35:=Qpp (k:=k+1) (by omega) hnx.out;generalize acc+d % 128*128 ^ k=N at*;by_cases hd1:d<128
        . rw[if_pos hd1]at hst;by_cases hbad:(0<k/\d=0)∨2147483647<N
          . rw[if_pos hbad]at hst;have hN:=hidP (hR.out.trans hst.out);clear hst;by_cases hz:0<k/\d=0
            focus
             obtain⟨hz1,rfl⟩:=hz
            rotate_left
            focus
             have hN1:2147483647<N:=(by omega);have hN2:(2147483647:Int)<(N:Int):=(by omega);by_cases hk0:0<k
             focus
              have hd0:¬d=0:=(by omega);have hd0' :((d:Int)==0)=false:=by simp;omega
             rotate_left
             focus
              skip
            all_goals
             go_wp2;exact bodyPost_ret (v:= .tuple Qjx) (by simp[results,Tryz.results42,go_sem]) rfl ⟨by rw[hN.out];rfl,rfl⟩
          . rw[if_neg hbad]at hst;have hN:=hidP (hR.out.trans hst.out);have hN1:N<=2147483647:=(by omega);have hN2:¬((2147483647:Int)<(N:Int)):=(by omega);clear hst;by_cases hk0:0<k
            . have hd0:¬d=0:=(by omega);have hd0' :((d:Int)==0)=false:=(by simp;omega);go_wp2;exact bodyPost_ret (v:= .tuple (Qk3 (N:Int) ((j:Int)+(k:Int)+1) true)) (by simp[results,Tryz.results42,go_sem]) rfl ⟨by rw[hN.out];rfl,rfl⟩
            . go_wp2;exact bodyPost_ret (v:= .tuple (Qk3 (N:Int) ((j:Int)+(k:Int)+1) true)) (by simp[results,Tryz.results42,go_sem]) rfl ⟨by rw[hN.out];rfl,rfl⟩
        . rw[if_neg hd1]at hst;have hN:=hidP (hR.out.trans hst.out);clear hst;go_wp2;exact⟨⟨k+1,N,rfl,by go_num,by omega,hnx,trivial,hN⟩,by simp[intOf];omega⟩
      . have hN:=hidP (hR.out.trans (Qi8 (by omega)));have hp1:(l.length:Int) - (k:Int)<=(j:Int):=(by omega);go_wp2;exact bodyPost_ret (v:= .tuple Qjx) (by simp[results,Tryz.results42,go_sem]) rfl ⟨by rw[hN.out];rfl,rfl⟩
  . obtain rfl:k=5:=(by omega);have hN:=hidP (hR.out.trans Qi9);go_wp2;exact bodyPost_ret (v:= .tuple Qjx) (by simp[results,Tryz.results42,go_sem]) rfl ⟨by rw[hN.out];rfl,rfl⟩
structure Rd (W:World) (r:Nat) (A:Option Addr) (cap:Nat) (l:List UInt8) (i:Int):Prop where
  box:Blk W r 120 (l1SI A l.length cap i)
  src:l= []∨∃b o,A=some ⟨b,o,none⟩/\b<W.heap.size/\b≠r/\In W b o l
  i64:I64 i
theorem Rd.below {W W' :World} {r:Nat} {A:Option Addr} {cap:Nat} {l:List UInt8} {i:Int} (h:Rd W r A cap l i) (g:Below W.heap.size W W'):Rd W' r A cap l i:=
 ⟨h.box.below g h.box.lt,h.src.imp id fun⟨b,o,e,hb,hn,hi⟩=>⟨b,o,e,Nat.lt_of_lt_of_le hb g.size,hn,hi.below hb g⟩,h.i64⟩
theorem Rd.goto {W:World} {r:Nat} {A:Option Addr} {cap:Nat} {l:List UInt8} {i:Int} (h:Rd W r A cap l i) (j:Int) (hj:I64 j):Rd (W.setCell ⟨r,1,none⟩ (.int .i64 j)) r A cap l j:=
 ⟨h.box.setAt 1 _,h.src.imp id fun⟨b,o,e,hb,hn,hi⟩=>⟨b,o,e,by simpa using hb,hn,hi.set _ _ (fun e=>hn e.symm)⟩,hj⟩
theorem Qb1 {b:Nat} {a w:World} (h:Only b a w) (n:Nat):Only b a (w.drewN n):=h.below (below_drewN (Below.refl _ _) n)
theorem Rd.drewN {W:World} {r:Nat} {A:Option Addr} {cap:Nat} {l:List UInt8} {i:Int} (h:Rd W r A cap l i) (n:Nat):Rd (W.drewN n) r A cap l i:=h.below (below_drewN (Below.refl _ _) n)
theorem Qln (r:Nat) (A:Option Addr) (cap:Nat) (l:List UInt8) (j:Nat) (hj:j<l.length) (hl:l.length<=1048576) (w:World) (h:Rd w r A cap l (j:Int)):
 Calls Tryz.prog 72 #[.pointer (some ⟨r,0,none⟩)] w fun e w' =>e= .returned (.int .i64 (l[j].toNat:Int))/\Only r w w' /\Rd w' r A cap l ((j+1:Nat):Int):=by
 obtain⟨c0,c1⟩:=h.box.row2;have f1:=h.box.thaw 1;have q0:=h.box.lt;obtain⟨b,o,rfl,hbs,hne,hin⟩:∃b o,A=some ⟨b,o,none⟩/\b<w.heap.size/\b≠r/\In w b o l:=by
  rcases h.src with h|h
  . subst h;simp at hj
  . exact h
 have d0:=hin.getB j hj;have hd2:(l[j]).toNat<256:=(l[j]).toNat_lt;generalize (l[j]).toNat=d at*;have HR:=hidP h;have hp1:(0:Int)<=(j:Int):=by omega
 have hp0:decide ((j:Int)<0)=false:=by simp
 have hp3:decide ((l.length:Int)<=(j:Int))=false:=by simp;omega
 have hp2:(j:Int)<(l.length:Int):=by omega
 clear h hin;go_enter Tryz.func72,Tryz.ntmps72;go_wp2_with fail
 go_quiet (fail)
 go_wp2_with fail
 go_quiet (fail)
 go_wp2;go_ret;refine⟨rfl,?_,?_⟩
 . exact(Qb1 (Only.refl _ _) _).set _ _
 . exact(HR.out.drewN _).goto ((j+1:Nat):Int) ⟨by omega,by omega⟩
theorem Qjk (r:Nat) (A:Option Addr) (cap:Nat) (l:List UInt8) (i:Int) (hj:¬(0<=i/\i<(l.length:Int))) (hl:l.length<=1048576) (w:World) (h:Rd w r A cap l i):
 Calls Tryz.prog 72 #[.pointer (some ⟨r,0,none⟩)] w fun e w' =>e= .panicked [{v:= .iface 9 (.string ⟨#[110,111,32,110,117,109,98,101,114]⟩),recovered:=false}]/\Only r w w' :=by
 obtain⟨c0,c1⟩:=h.box.row2;have q0:=h.box.lt;clear h;by_cases h0:i<0
 . have hp0:decide (i<0)=true:=(by simpa using h0);clear hj;go_enter Tryz.func72,Tryz.ntmps72;go_wp2_with fail
   go_quiet (fail)
   go_wp2;exact⟨rfl,rfl,Qb1 (Only.refl _ _) _⟩
 . have hp0:decide (i<0)=false:=(by simp;omega);have hp3:decide ((l.length:Int)<=i)=true:=(by simp;omega);clear hj h0;go_enter Tryz.func72,Tryz.ntmps72;go_wp2_with fail
   go_quiet (fail)
   go_wp2;exact⟨rfl,rfl,Qb1 (Only.refl _ _) _⟩
def Qey {α:Type} (R:α->Value->World->Prop) (r:Nat) (A:Option Addr) (cap:Nat) (l:List UInt8) (w:World) (e:Ending) (w' :World):Option (α × Nat)->Prop
  |some (x,c)=>Only r w w' /\Rd w' r A cap l (c:Int)/\∃v,e= .returned v/\R x v w'
  |none=>Only r w w' /\∃t v,e= .panicked [{v:= .iface t v,recovered:=false}]
def Qqm (n:Nat) (v:Value) (_:World):Prop:=v= .int .i64 (n:Int)
def Qt8 (s:ByteArray) (v:Value) (_:World):Prop:=v= .string s
theorem Qap {b:Nat} {w w1 w2:World} (h:Only b w w1) (k:Only b w1 w2):Only b w w2:=
 ⟨k.os.trans h.os,k.tape.trans h.tape,k.output.trans h.output,Nat.le_trans h.size k.size,fun i hi hb=>(k.block i (Nat.lt_of_lt_of_le hi h.size) hb).trans (h.block i hi hb)⟩
theorem Qpu {k acc d:Nat} (hk:k<5) (hacc:acc<128 ^ k) (hd:d<256):(acc:Int)+wrap64 ((d:Int) % 128*2 ^ (k*7))=((acc+d % 128*128 ^ k:Nat):Int):=by
 have hk' :k=0∨k=1∨k=2∨k=3∨k=4:=by omega
 rcases hk' with rfl|rfl|rfl|rfl|rfl<;>rw[Qfy _ (by omega)]<;>omega
theorem Qbn (r:Nat) (A:Option Addr) (cap:Nat) (l:List UInt8) (i:Int) (hl:l.length<=1048576) (w:World) (h:Rd w r A cap l i):
 Calls Tryz.prog 45 #[.pointer (some ⟨r,0,none⟩)] w fun e w' =>Qey Qqm r A cap l w e w' (getN l i):=by
 have HR:=hidP h;clear h;go_enter Tryz.func45,Tryz.ntmps45;go_wp2
 go_loopw [3,6] (fun v3 v6 W=>∃(k acc:Nat),v3= .int .i64 (acc:Int)/\v6= .int .i64 (k:Int)/\k<=5/\Hid (acc<128 ^ k)/\Hid (Only r w W)/\Hid (k=0∨0<=i)/\Hid (Rd W r A cap l (i+(k:Int)))/\Hid (getN l i=rest l i k acc)) (fun _ v6 _=>5 - (intOf v6).toNat)
 case atStart=>exact⟨0,0,rfl,rfl,by omega,by show 0<1;omega,Only.refl _ _,.inl rfl,by simpa using HR,Qi6 l i⟩
 case round=>
  obtain⟨k,acc,rfl,rfl,hk,hacc,hO,hpos,hR,hrest⟩:=hrel;by_cases h5:k<5
  . have h5' :(k:Int)<5:=(by omega);by_cases hin:0<=i+(k:Int)/\i+(k:Int)<(l.length:Int)
    . obtain⟨j,rfl⟩:∃j:Nat,i=(j:Int):=⟨i.toNat,by rcases hpos.out with h|h<;>omega⟩
      have hp:j+k<l.length:=(by omega);have hR' :Hid (Rd wr r A cap l ((j+k:Nat):Int)):=hR;have hst:=hidP (Qi7 h5 acc hp);have hd2:(l[j+k]).toNat<256:=(l[j+k]).toNat_lt;clear hin;go_wp2_with fail;refine(Qln r A cap l (j+k) hp hl _ hR'.out).mono ?_;rintro e w1 ⟨rfl,o1,r1⟩;generalize (l[j+k]).toNat=d at*;have hO1:=hidP (Qap hO.out o1);have hR1:Hid (Rd w1 r A cap l ((j:Int)+((k+1:Nat):Int))):=by
       have e:(j:Int)+((k+1:Nat):Int)=((j+k+1:Nat):Int):=(by omega);show Rd _ _ _ _ _ _;rw[e];exact r1
      have hor:=Qpu h5 hacc.out hd2;have hnx:=hidP (Ql9 h5 hacc.out hd2);have hn35:=Qpp (k:=k+1) (by omega) hnx.out;have hal:=Qpp hk hacc.out;clear o1 r1 hR hR' hO;generalize acc+d % 128*128 ^ k=N at*;by_cases hd1:d<128
      . rw[if_pos hd1]at hst;have hd128:¬(128:Int)<=(d:Int):=(by omega);by_cases hbad:(0<k/\d=0)∨2147483647<N
        . rw[if_pos hbad]at hst;have hN:=hidP (hrest.out.trans hst.out);clear hst hrest;by_cases hz:0<k/\d=0
          . obtain⟨hz1,rfl⟩:=hz;have hz2:decide ((0:Int)<(k:Int))=true:=(by simp;omega);have hz3:(0:Int)<(k:Int):=(by omega);go_wp2;refine⟨rfl,?_⟩;rw[hN.out];exact⟨hO1.out,_,_,rfl⟩
          . have hN1:2147483647<N:=(by omega);have hN2:(2147483647:Int)<(N:Int):=(by omega);by_cases hd0:d=0
            . subst hd0;obtain rfl:k=0:=(by omega);have:=hnx.out;exfalso;omega
            . have hd0' :((d:Int)==0)=false:=(by simp;omega);go_wp2;refine⟨rfl,?_⟩;rw[hN.out];exact⟨hO1.out,_,_,rfl⟩
        . rw[if_neg hbad]at hst;have hN:=hidP (hrest.out.trans hst.out);have hN1:N<=2147483647:=(by omega);have hN2:¬((2147483647:Int)<(N:Int)):=(by omega);clear hst hrest;by_cases hd0:d=0
          . subst hd0;obtain rfl:k=0:=(by omega);obtain rfl:acc=0:=(by have:=hacc.out;omega);obtain rfl:N=0:=(by rw[Qfy _ (by simp)]at hor;simp at hor;omega);clear hor;go_wp2;go_ret;rw[hN.out];exact⟨hO1.out,hR1.out,_,rfl,rfl⟩
          . have hd0' :((d:Int)==0)=false:=(by simp;omega);go_wp2;go_ret;rw[hN.out];exact⟨hO1.out,hR1.out,_,rfl,rfl⟩
      . rw[if_neg hd1]at hst;have hN:=hidP (hrest.out.trans hst.out);clear hst hrest;go_wp2;exact⟨⟨k+1,N,rfl,by go_num,by omega,hnx,hO1,hidP (.inr (by omega)),hR1,hN⟩,by simp[intOf];omega⟩
    . have hN:Hid (getN l i=none):=by
       show _=_;rw[hrest.out];by_cases h0:i<0
       . exact Qlk h0
       . exact Qi8 (by omega)
      go_wp2_with fail;refine(Qjk r A cap l _ hin hl _ hR.out).mono ?_;rintro e w1 ⟨rfl,o1⟩;refine⟨rfl,?_⟩;rw[hN.out];exact⟨Qap hO.out o1,_,_,rfl⟩
  . obtain rfl:k=5:=(by omega);have hN:=hidP (hrest.out.trans Qi9);go_wp2;refine⟨rfl,?_⟩;rw[hN.out];exact⟨hO.out,_,_,rfl⟩
def getT (l:List UInt8) (i:Int):Option (ByteArray × Nat):=match getN l i with
  |some (n,c)=>if c+n<=l.length then some (⟨((l.drop c).take n).toArray⟩,c+n)else none
  |none=>none
def txtT (o:Option (ByteArray × Nat)):Value:=match o with
  |some (s,c)=> .tuple (Qtd s (c:Int) true)
  |none=> .tuple Qsa
theorem Qds {l:List UInt8} {i:Int} {s:ByteArray} {c:Nat} (h:getT l i=some (s,c)):0<=i/\i<(c:Int)/\c<=l.length/\s.size<=l.length:=by
 unfold getT at h;split at h
 . rename_i n c' hg;have:=Qbp hg;split at h
   . simp only[Option.some.injEq,Prod.mk.injEq]at h;obtain⟨rfl,rfl⟩:=h;refine⟨by omega,by omega,by omega,?_⟩;show((l.drop c').take n).toArray.size<=_;simp;omega
   . cases h
 . cases h
theorem Qla {l:List UInt8} {b o cap c n:Nat} (hc:c+n<=l.length) (hcap:l.length<=cap) (hcm:cap<=9223372036854775807):
 ∃a' :Addr,(∀W:World,(Instr.slice 22 (.slice (some ⟨b,o,none⟩) l.length cap) (some (.int .i64 (c:Int))) (some (.int .i64 ((c:Int)+(n:Int)))) none).run Tryz.prog W= .ok (.slice (some a') n (cap - c)) W)/\
  ∀W:World,In W b o l->(convert 22 9 (.slice (some a') n (cap - c))).run Tryz.prog W= .ok (.string ⟨((l.drop c).take n).toArray⟩) W:=by
 have hlen:((l.drop c).take n).length=n:=by simp;omega
 obtain⟨i0,hi,hz0,hz1,hz2⟩:=info_parts Qj1;have hsz:∀W:World,(sizeOf 5).run Tryz.prog W= .ok 1 W:=fun W=>by simp[sizeOf,typeInfo,hi,hz1]
 have ht:((c:Int)+(n:Int)).toNat - c=n:=by omega
 by_cases he:cap=c
 . subst he;obtain rfl:n=0:=(by omega);refine⟨⟨b,o,none⟩,fun W=> ?_,fun W hA=> ?_⟩
   . simp[Instr.slice,run_underlying Tryz.underlying22,Instr.sliceBounds,Instr.sliceBound,asIntOf,hsz]
   . have h:=run_convert_bytes_back (P:=Tryz.prog) W 22 9 5 ⟨b,o,none⟩ (cap - cap) [] Tryz.underlying22 Tryz.underlying5 Tryz.underlying9 (fun j hj=>by simp at hj);simpa using h
 . refine⟨⟨b,o+c,none⟩,fun W=> ?_,fun W hA=> ?_⟩
   . simp[Instr.slice,run_underlying Tryz.underlying22,Instr.sliceBounds,Instr.sliceBound,asIntOf,hsz,he];rw[if_pos ⟨by omega,by omega⟩,if_pos (by omega),ht,Addr.add_mid]
   . have h:=run_convert_bytes_back (P:=Tryz.prog) W 22 9 5 ⟨b,o+c,none⟩ (cap - c) ((l.drop c).take n) Tryz.underlying22 Tryz.underlying5 Tryz.underlying9 (fun j hj=>by
      rw[Addr.add_mid];have hj' :j<n:=(by rwa [hlen]at hj);have:=hA.getB (c+j) (by omega);rw[← Nat.add_assoc]at this;simpa using this)
     rwa [hlen]at h
theorem Qgr (A:Option Addr) (cap:Nat) (l:List UInt8) (hl:l.length<=1048576) (hcap:l.length<=cap) (hcm:cap<=9223372036854775807) (i:Int) (hi:I64 i) (w:World) (hA:At w A l):
 Calls Tryz.prog 92 (l1SI A l.length cap i) w fun e w' =>e= .returned (txtT (getT l i))/\w' =w:=by
 have HA:=hidP hA;have hi' :=hidP hi;clear hA hi;go_enter Tryz.func92,Tryz.ntmps92;go_wp2_with fail;refine(Qdx A cap l hl i hi'.out _ HA.out).mono ?_;rintro e w ⟨rfl,rfl⟩;cases hg:getN l i with
 |none=>
  have hT:Hid (getT l i=none):=by show getT l i=none;unfold getT;rw[hg]
  simp only[numT];go_wp2;exact bodyPost_ret (v:= .tuple Qsa) (by simp[results,Tryz.results92,go_sem]) rfl ⟨by rw[hT.out];rfl,rfl⟩
 |some x=>
  obtain⟨n,c⟩:=x;obtain⟨g1,g2,g3,g4,g5⟩:=Qbp hg;simp only[numT];obtain⟨b,o,rfl,hbs,hin⟩:∃b o,A=some ⟨b,o,none⟩/\b<w.heap.size/\In w b o l:=by
   rcases HA.out with h|h
   . subst h;simp at g4;omega
   . exact h
  by_cases hc:c+n<=l.length
  . have hT:Hid (getT l i=some (⟨((l.drop c).take n).toArray⟩,c+n)):=(by show getT l i=_;unfold getT;rw[hg];simp[hc]);obtain⟨a',hs,hv⟩:=Qla (b:=b) (o:=o) hc hcap hcm;have hs1:=hs w;have hv1:=hv w hin;have hn1:¬((l.length:Int) - (c:Int)<(n:Int)):=(by omega);clear hs hv hin;go_wp2;exact bodyPost_ret (v:= .tuple (Qtd ⟨((l.drop c).take n).toArray⟩ ((c:Int)+(n:Int)) true)) (by simp[results,Tryz.results92,go_sem]) rfl ⟨by rw[hT.out];rfl,rfl⟩
  . have hT:Hid (getT l i=none):=(by show getT l i=none;unfold getT;rw[hg];simp[hc]);have hn1:((l.length:Int) - (c:Int)<(n:Int)):=(by omega);clear hin;go_wp2;exact bodyPost_ret (v:= .tuple Qsa) (by simp[results,Tryz.results92,go_sem]) rfl ⟨by rw[hT.out];rfl,rfl⟩
theorem Qea (r:Nat) (A:Option Addr) (cap:Nat) (l:List UInt8) (i:Int) (hl:l.length<=1048576) (hcap:l.length<=cap) (hcm:cap<=9223372036854775807) (w:World) (h:Rd w r A cap l i):
 Calls Tryz.prog 87 #[.pointer (some ⟨r,0,none⟩)] w fun e w' =>Qey Qt8 r A cap l w e w' (getT l i):=by
 have HR:=hidP h;clear h;go_enter Tryz.func87,Tryz.ntmps87;go_wp2_with fail;refine(Qbn r A cap l i hl _ HR.out).mono ?_;intro e w1 h1;cases hg:getN l i with
 |none=>
  have hT:Hid (getT l i=none):=by show getT l i=none;unfold getT;rw[hg]
  rw[hg]at h1;obtain⟨o1,t,v,rfl⟩:=h1;refine⟨rfl,?_⟩;rw[hT.out];exact⟨o1,t,v,rfl⟩
 |some x=>
  obtain⟨n,c⟩:=x;rw[hg]at h1;obtain⟨o1,r1,v,rfl,rfl⟩:=h1;obtain⟨g1,g2,g3,g4,g5⟩:=Qbp hg;obtain⟨c0,c1⟩:=r1.box.row2;have f1:=r1.box.thaw 1;have q0:=r1.box.lt;have HR1:=hidP r1;have HO1:=hidP o1;obtain⟨b,o,rfl,hbs,hne,hin⟩:∃b o,A=some ⟨b,o,none⟩/\b<w1.heap.size/\b≠r/\In w1 b o l:=by
   rcases r1.src with h|h
   . subst h;simp at g4;omega
   . exact h
  clear r1 o1;by_cases hc:c+n<=l.length
  . have hT:Hid (getT l i=some (⟨((l.drop c).take n).toArray⟩,c+n)):=(by show getT l i=_;unfold getT;rw[hg];simp[hc]);obtain⟨a',hs,hv⟩:=Qla (b:=b) (o:=o) hc hcap hcm;have hn1:decide ((l.length:Int) - (c:Int)<(n:Int))=false:=(by simp;omega);have hn2:¬((l.length:Int) - (c:Int)<(n:Int)):=(by omega);have HV:=hidP hv;have HIn:=hidP hin;clear hin hv;go_wp2_with fail
    go_quiet (fail)
    go_wp2_with fail;have r2:=(HR1.out.drewN nq).goto ((c:Int)+(n:Int)) ⟨by omega,by omega⟩;have o2:Hid (Only r w ((w1.drewN nq).setCell ⟨r,1,none⟩ (.int .i64 ((c:Int)+(n:Int))))):=(Qb1 HO1.out nq).set _ _;have hin2:In ((w1.drewN nq).setCell ⟨r,1,none⟩ (.int .i64 ((c:Int)+(n:Int)))) b o l:=(HIn.out.below hbs (below_drewN (Below.refl _ _) nq)).set _ _ (fun e=>hne e.symm);have hb2:b<((w1.drewN nq).setCell ⟨r,1,none⟩ (.int .i64 ((c:Int)+(n:Int)))).heap.size:=(by simpa using hbs);clear c0 c1 f1 q0 HIn HR1 HO1 hbs;generalize (w1.drewN nq).setCell ⟨r,1,none⟩ (.int .i64 ((c:Int)+(n:Int)))=W2 at*;obtain⟨c0,c1⟩:=r2.box.row2;have q0:=r2.box.lt;have hv2:∀m,(convert 22 9 (.slice (some a') n (cap - c))).run Tryz.prog (W2.drewN m)= .ok (.string ⟨((l.drop c).take n).toArray⟩) (W2.drewN m):=fun m=>HV.out _ (hin2.below hb2 (below_drewN (Below.refl _ _) m))
    have hv3:=HV.out _ hin2;have HR2:=hidP r2;clear r2 hin2 HV
    go_quiet (fail)
    go_wp2;go_ret;rw[hT.out];exact⟨Qb1 o2.out _,HR2.out.drewN _,_,rfl,rfl⟩
  . have hT:Hid (getT l i=none):=(by show getT l i=none;unfold getT;rw[hg];simp[hc]);have hn1:decide ((l.length:Int) - (c:Int)<(n:Int))=true:=(by simp;omega);have hn2:((l.length:Int) - (c:Int)<(n:Int)):=(by omega);go_wp2_with fail
    go_quiet (fail)
    go_wp2;refine⟨rfl,?_⟩;rw[hT.out];exact⟨Qb1 HO1.out _,_,_,rfl⟩
def inB (x lo hi:Int):Bool:=decide (lo<=x/\x<=hi)
theorem Qc7 (x lo hi:Int) (w:World):
 Calls Tryz.prog 32 (Qck x lo hi) w fun e w' =>e= .returned (.bool (inB x lo hi))/\w' =w:=by
 by_cases h1:lo<=x
 . by_cases h2:x<=hi
   . have e:Hid (inB x lo hi=true):=(by show _=_;simp[inB,h1,h2]);go_enter Tryz.func32,Tryz.ntmps32;go_wp2;go_ret;exact⟨by rw[e.out];rfl,rfl⟩
   . have e:Hid (inB x lo hi=false):=(by show _=_;simp[inB,h2]);have h2' :decide (x<=hi)=false:=decide_eq_false h2;go_enter Tryz.func32,Tryz.ntmps32;go_wp2;go_ret;exact⟨by rw[e.out];first|rfl|(rw[← h2'];rfl),rfl⟩
 . have e:Hid (inB x lo hi=false):=(by show _=_;simp[inB,h1]);go_enter Tryz.func32,Tryz.ntmps32;go_wp2;go_ret;exact⟨by rw[e.out];rfl,rfl⟩
theorem Qcf (x lo hi:Int) (w:World):
 Calls Tryz.prog 35 (Qck x lo hi) w fun e w' =>e= .returned (.bool (inB x lo hi))/\w' =w:=by
 by_cases h1:lo<=x
 . by_cases h2:x<=hi
   . have e:Hid (inB x lo hi=true):=(by show _=_;simp[inB,h1,h2]);go_enter Tryz.func35,Tryz.ntmps35;go_wp2;go_ret;exact⟨by rw[e.out];rfl,rfl⟩
   . have e:Hid (inB x lo hi=false):=(by show _=_;simp[inB,h2]);have h2' :decide (x<=hi)=false:=decide_eq_false h2;go_enter Tryz.func35,Tryz.ntmps35;go_wp2;go_ret;exact⟨by rw[e.out];first|rfl|(rw[← h2'];rfl),rfl⟩
 . have e:Hid (inB x lo hi=false):=(by show _=_;simp[inB,h1]);go_enter Tryz.func35,Tryz.ntmps35;go_wp2;go_ret;exact⟨by rw[e.out];rfl,rfl⟩
theorem Qiu (B:Nat) (a:Option Addr) (c:Nat) (xs:List UInt8) (x:UInt8) (z:Int) (hz:(x.toNat:Int)=z) (W:World) (hB:B<=W.heap.size) (hv:W.ownsRow B 5 1 (.slice a xs.length c) xs.length (flat xs)) (hlen:xs.length<=600000000):
 ∃a' c' W',(Builtin.append_ #[22,22] 22 (l1SS a xs.length c (some ⟨W.heap.size,0,none⟩) 1 1)).run Tryz.prog (W.alloc (.cells #[.int .u8 z] 5))= .ok (.slice a' (xs.length+1) c') W' /\W'.ownsRow B 5 1 (.slice a' (xs++ [x]).length c') (xs++ [x]).length (flat (xs++ [x]))/\
  (W.alloc (.cells #[.int .u8 z] 5)).grownBy W' (Value.slice a xs.length c).ownBlock/\((Value.slice a' (xs.length+1) c').ownBlock=(Value.slice a xs.length c).ownBlock∨(Value.slice a' (xs.length+1) c').ownBlock=some (W.heap.size+1)):=by
 subst hz;obtain⟨v',w3,hr,hown3,hgrow,hat⟩:=Qef B (.slice a xs.length c) xs [x] (some ⟨W.heap.size,0,none⟩) 1 (W.alloc (.cells #[.int .u8 (x.toNat:Int)] 5)) (by simp;omega) (Qau hv _) (Qt5 W x 5) (by simp;omega);obtain⟨a',c',rfl,_⟩:=Qao hown3;refine⟨a',c',w3,hr,?_,hgrow,by simpa using hat⟩;have e:(xs++ [x]).length=xs.length+ [x].length:=by simp
 rw[e];exact hown3
theorem Qg7 {B:Nat} {w W W' :World} {a:Option Addr} {n c k:Nat} {xs:List Value} {t:TypeId} (h:Below B w W) (hO:W.ownsRow B t k (.slice a n c) n xs) (o:Obj) (hB:B<=W.heap.size) (g:(W.alloc o).grownBy W' (Value.slice a n c).ownBlock):Below B w W' :=
 (h.alloc hB o).grown g (by simp;omega) (fun j e=>Nat.le_of_not_lt fun q=>Qa9 hO q e.symm)
theorem Qa4 (n:Int) (w:World):
 Calls Tryz.prog 28 #[.int .i64 n] w fun e w' =>∃a c,e= .returned (.slice a (numI n).length c)/\Below w.heap.size w w' /\w'.ownsRow w.heap.size 5 1 (.slice a (numI n).length c) (numI n).length (flat (numI n)):=by
 have own0:Hid ((w.alloc (.cells #[] 5)).ownsRow w.heap.size 5 1 (.slice (some ⟨w.heap.size,0,none⟩) 0 0) 0 []):=by
  refine⟨by simp,.inr ⟨w.heap.size,0,#[],rfl,Nat.le_refl _,Blk.new w 5 #[],by omega,by simp[maxLen],rfl,rfl⟩⟩
 by_cases hn:0<=n/\n<=2147483647
 . obtain⟨m0,rfl⟩:∃m:Nat,n=(m:Int):=⟨n.toNat,by omega⟩
   have hm0:m0<=2147483647:=(by omega);rw[Qb7 hm0];have hin:inB (m0:Int) 0 2147483647=true:=(by simp[inB];omega);have hl0:=hidP (Qcx (n:=m0) (by omega));clear hn;go_enter Tryz.func28,Tryz.ntmps28;go_wp2_with fail;refine(Qcf _ _ _ _).mono ?_;rintro e w1 ⟨rfl,rfl⟩;have B1:=Qad (Below.refl _ w) (.cells #[] 5);rw[hin];go_wp2
   go_loopw [0,3] (fun x v W=>∃(m:Nat) (xs:List UInt8) (a:Option Addr) (c:Nat),x= .int .i64 (m:Int)/\v= .slice a xs.length c/\m<=2147483647/\Hid (xs++numB m=numB m0)/\Hid (W.ownsRow w.heap.size 5 1 (.slice a xs.length c) xs.length (flat xs))/\Below w.heap.size w W) (fun x _ _=>(intOf x).toNat)
   case atStart=>exact⟨m0,[],_,_,rfl,rfl,hm0,rfl,own0,B1⟩
   case round=>
    obtain⟨m,xs,a,c,rfl,rfl,hm,hx,hO,hbl⟩:=hrel;have hxl:xs.length<=5:=(by have h1:=congrArg List.length hx.out;have h2:=hl0.out;rw[List.length_append]at h1;omega);by_cases hlt:m<128
    . obtain⟨a',c',W',hr,hO',hg,_⟩:=Qiu w.heap.size a c xs (UInt8.ofNat m) (m:Int) (by rw[UInt8.toNat_ofNat'];omega) wr hbl.size hO.out (by omega);have HO:=hidP hO';have HB:=hidP (Qg7 hbl hO.out _ hbl.size hg);have he:Hid (xs++ [UInt8.ofNat m]=numB m0):=(by show _=_;rw[← hx.out,Qd3 hlt]);clear hO' hg hO;go_wp2_with (at_builtin;refine Qac rfl _ _ _ rfl _ _ _ rfl rfl hr ?_);go_ret;have hl:(numB m0).length=xs.length+1:=(by rw[← he.out];simp);refine⟨a',c',by rw[hl];rfl,HB.out,?_⟩;have:=HO.out;rwa [he.out]at this
    . have e8:((UInt8.ofNat (m % 128+128)).toNat:Int)=(m:Int) % 128+128:=(by rw[UInt8.toNat_ofNat'];omega);obtain⟨a',c',W',hr,hO',hg,_⟩:=Qiu w.heap.size a c xs (UInt8.ofNat (m % 128+128)) ((m:Int) % 128+128) e8 wr hbl.size hO.out (by omega);have HO:=hidP hO';have HB:=hidP (Qg7 hbl hO.out _ hbl.size hg);have he:Hid (xs++ [UInt8.ofNat (m % 128+128)]++numB (m / 128)=numB m0):=(by show _=_;rw[← hx.out,Qfh hlt];simp);clear hO' hg hO e8;go_wp2_with (at_builtin;refine Qac rfl _ _ _ rfl _ _ _ rfl rfl hr ?_);refine⟨⟨m / 128,xs++ [UInt8.ofNat (m % 128+128)],a',c',?_,by simp,by omega,he,HO,HB.out⟩,?_⟩
      . show Value.int .i64 _=Value.int .i64 _;congr 1
      . simp[intOf];omega
 . have hin:inB n 0 2147483647=false:=(by simp[inB];omega);have hN:Hid (numI n= []):=(by show _=_;unfold numI;rw[if_neg hn]);clear hn;go_enter Tryz.func28,Tryz.ntmps28;go_wp2_with fail;refine(Qcf _ _ _ _).mono ?_;rintro e w1 ⟨rfl,rfl⟩;have B1:=Qad (Below.refl _ w) (.cells #[] 5);rw[hin];go_wp2;go_ret;refine⟨_,_,by rw[hN.out];rfl,B1,?_⟩;rw[hN.out];exact own0.out
theorem Qd5 (l:List UInt8):flat l=l.map fun b=>Value.int .u8 (b.toNat:Int):=by
 induction l with
 |nil=>rfl
 |cons x l ih=>rw[Qcv,ih];rfl
theorem Qhd (w:World) (t:TypeId) (s:ByteArray):Below w.heap.size w (Go.Lib.bytesWorld w t s):=
 ⟨rfl,rfl,rfl,by rw[Go.Lib.bytesWorld_size];omega,fun i hi=>Go.Lib.bytesWorld_at_old w t s i hi⟩
theorem Ql4 (w:World) (t:TypeId) (s:ByteArray):At (Go.Lib.bytesWorld w t s) (some ⟨w.heap.size,0,none⟩) s.data.toList:=by
 refine .inr ⟨_,_,rfl,by rw[Go.Lib.bytesWorld_size];omega,?_⟩;intro j v hv;rw[Qd5]at hv;have hj:j<s.size:=by have:=(List.getElem?_eq_some_iff.1 hv).1;rwa [List.length_map,Array.length_toList]at this
 rw[Nat.zero_add,Go.Lib.bytesWorld_cell w t s j hj];rw[← hv,List.getElem?_map,List.getD_eq_getElem?_getD];have:j<s.data.toList.length:=by rw[Array.length_toList];exact hj
 simp[List.getElem?_eq_getElem this]
theorem Qfu {A:Option Addr} {cap:Nat} {L:List UInt8} {w:World} (hA:At w A L):(convert 22 9 (.slice A L.length cap)).run Tryz.prog w= .ok (.string ⟨L.toArray⟩) w:=by
 rcases hA with h|⟨b,o,rfl,hb,hin⟩
 . subst h;cases A with
   |none=>rw[List.length_nil,run_convert_bytes_string w 22 9 5 none 0 cap Tryz.underlying22 Tryz.underlying5 Tryz.underlying9];simp[Conv.bytesToString,go_sem];rfl
   |some a=>
    have h:=run_convert_bytes_back (P:=Tryz.prog) w 22 9 5 a cap [] Tryz.underlying22 Tryz.underlying5 Tryz.underlying9 (fun j hj=>by simp at hj);simpa using h
 . exact run_convert_bytes_back (P:=Tryz.prog) w 22 9 5 ⟨b,o,none⟩ cap L Tryz.underlying22 Tryz.underlying5 Tryz.underlying9 (fun j hj=>by rw[Addr.add_mid];simpa using hin.getB j hj)
theorem newL {α:Type} [Cel α] (W:World) (L:List α) (cs:Array Value) (tt:TypeId) (h:cs.toList=flat L):At (W.alloc (.cells cs tt)) (some ⟨W.heap.size,0,none⟩) L:=by
 refine .inr ⟨_,_,rfl,by simp,?_⟩;intro j v hv;rw[← h]at hv;exact(Blk.new W tt cs).cell (i:=0+j) (by simpa using hv)
structure Turn (P:Nat->Prop) (w w' :World):Prop where
  os:w'.os=w.os
  tape:w'.tape=w.tape
  output:w'.output=w.output
  size:w.heap.size<=w'.heap.size
  block:∀k,P k->w'.heap[k]? =w.heap[k]?
theorem Turn.refl (P:Nat->Prop) (w:World):Turn P w w:=⟨rfl,rfl,rfl,Nat.le_refl _,fun _ _=>rfl⟩
theorem Turn.trans {P:Nat->Prop} {w w1 w2:World} (h:Turn P w w1) (k:Turn P w1 w2):Turn P w w2:=
 ⟨k.os.trans h.os,k.tape.trans h.tape,k.output.trans h.output,Nat.le_trans h.size k.size,fun i hi=>(k.block i hi).trans (h.block i hi)⟩
theorem Turn.of_below {P:Nat->Prop} {w w1:World} (h:Below w.heap.size w w1) (hP:∀k,P k->k<w.heap.size):Turn P w w1:=⟨h.os,h.tape,h.output,h.size,fun i hi=>h.block i (hP i hi)⟩
theorem Turn.set {P:Nat->Prop} {w w1:World} (h:Turn P w w1) {b:Nat} (hb:¬P b) (o:Nat) (v:Value):Turn P w (w1.setCell ⟨b,o,none⟩ v):=
 ⟨h.os,h.tape,h.output,by simpa using h.size,fun i hi=>(Below.heap_setCell w1 ⟨b,o,none⟩ v i (fun e=>hb (show P b from(show i=b from e)▸hi))).trans (h.block i hi)⟩
theorem Turn.below {P:Nat->Prop} {w w1:World} (h:Turn P w w1) {n:Nat} (hn:∀k,k<n->P k):Below n w w1:=⟨h.os,h.tape,h.output,h.size,fun i hi=>h.block i (hn i hi)⟩
theorem Turn.mono {P Q:Nat->Prop} {w w1:World} (h:Turn P w w1) (hn:∀k,Q k->P k):Turn Q w w1:=⟨h.os,h.tape,h.output,h.size,fun i hi=>h.block i (hn i hi)⟩
theorem Blk.turn {P:Nat->Prop} {W W' :World} {k:Nat} {t:TypeId} {vs:Array Value} (h:Blk W k t vs) (g:Turn P W W') (hk:P k):Blk W' k t vs:=(g.block k hk).trans h
theorem In.turn {α:Type} [Cel α] {P:Nat->Prop} {W W' :World} {b o:Nat} {l:List α} (h:In W b o l) (g:Turn P W W') (hb:P b):In W' b o l:=
 fun j v hv=>(World.cell?_of_block (a:=⟨b,o+j,none⟩) (g.block b hb)).trans (h j v hv)
theorem At.turn {α:Type} [Cel α] {P:Nat->Prop} {W W' :World} {A:Option Addr} {l:List α} (h:At W A l) (g:Turn P W W') (hP:∀b o,A=some ⟨b,o,none⟩->P b):At W' A l:=
 h.imp id fun⟨b,o,e,hb,hi⟩=>⟨b,o,e,Nat.lt_of_lt_of_le hb g.size,hi.turn g (hP b o e)⟩
def Wr (P:Nat->Prop) (b:Nat) (W:World) (xs:List UInt8):Prop:=
  ∃a c,Blk W b 82 #[.slice a xs.length c]/\W.ownsRow 0 5 1 (.slice a xs.length c) xs.length (flat xs)/\(∀g,(Value.slice a xs.length c).ownBlock=some g->¬P g/\g≠b)/\¬P b/\∀k,P k->k<W.heap.size
theorem Wr.below {P:Nat->Prop} {b:Nat} {W W' :World} {xs:List UInt8} (h:Wr P b W xs) (g:Below W.heap.size W W'):Wr P b W' xs:=by
 obtain⟨a,c,h1,h2,h3,h4,h5⟩:=h;exact⟨a,c,h1.below g h1.lt,Qas h2 g,h3,h4,fun k hk=>Nat.lt_of_lt_of_le (h5 k hk) g.size⟩
theorem Wr.keep {P:Nat->Prop} {b:Nat} {W:World} {xs:List UInt8} (h:Wr P b W xs) (o:Obj):Wr (fun k=>P k∨k=W.heap.size) b (W.alloc o) xs:=by
 obtain⟨a,c,h1,h2,h3,h4,h5⟩:=h;have hb:=h1.lt;refine⟨a,c,h1.alloc o,Qau h2 o,fun g hg=>⟨?_,(h3 g hg).2⟩,?_,?_⟩
 . rintro (h|h)
   . exact(h3 g hg).1 h
   . have:=Qcn h2 hg;omega
 . rintro (h|h)
   . exact h4 h
   . omega
 . rintro k (h|h)
   . have:=h5 k h;simp;omega
   . simp;omega
theorem Wr.mono {P Q:Nat->Prop} {b:Nat} {W:World} {xs:List UInt8} (h:Wr P b W xs) (hn:∀k,Q k->P k):Wr Q b W xs:=by
 obtain⟨a,c,h1,h2,h3,h4,h5⟩:=h;exact⟨a,c,h1,h2,fun g hg=>⟨fun q=>(h3 g hg).1 (hn g q),(h3 g hg).2⟩,fun q=>h4 (hn b q),fun k hk=>h5 k (hn k hk)⟩
theorem Qh1 {P:Nat->Prop} {W W' :World} {a:Option Addr} {n c:Nat} (g:W.grownBy W' (Value.slice a n c).ownBlock) (h3:∀g,(Value.slice a n c).ownBlock=some g->¬P g) (h5:∀k,P k->k<W.heap.size):Turn P W W' :=by
 refine⟨g.os,g.tape,g.output,g.size,fun k hk=>g.block k (h5 k hk) (fun e=>h3 k e.symm hk)⟩
theorem Qkk {P:Nat->Prop} {b:Nat} {a:Option Addr} {c:Nat} {xs:List UInt8} {x:UInt8} {z:Int} (hz:(x.toNat:Int)=z) {W:World} (hb:Blk W b 82 #[.slice a xs.length c]) (hv:W.ownsRow 0 5 1 (.slice a xs.length c) xs.length (flat xs))
 (h3:∀g,(Value.slice a xs.length c).ownBlock=some g->¬P g/\g≠b) (h4:¬P b) (h5:∀k,P k->k<W.heap.size) (hlen:xs.length<=600000000):
 ∃a' c' W',(Builtin.append_ #[22,22] 22 (l1SS a xs.length c (some ⟨W.heap.size,0,none⟩) 1 1)).run Tryz.prog (W.alloc (.cells #[.int .u8 z] 5))= .ok (.slice a' (xs.length+1) c') W' /\
  Blk W' b 82 #[.slice a xs.length c]/\Wr P b (W'.setCell ⟨b,0,none⟩ (.slice a' (xs.length+1) c')) (xs++ [x])/\Turn P W (W'.setCell ⟨b,0,none⟩ (.slice a' (xs.length+1) c')):=by
 obtain⟨a',c',W',hr,hO,hg,hat⟩:=Qiu 0 a c xs x z hz W (Nat.zero_le _) hv hlen;have hlt:=hb.lt;have t0:Turn (fun k=>P k∨k=b) (W.alloc (.cells #[.int .u8 z] 5)) W' :=Qh1 hg (fun g hg q=>q.elim (h3 g hg).1 (h3 g hg).2) (fun k h=>h.elim (fun h=>by have:=h5 k h;simp;omega) (fun h=>by simp;omega));have t1:Turn (fun k=>P k∨k=b) W W' :=(Turn.of_below (Qad (Below.refl _ W) _) (fun k h=>h.elim (h5 k) (fun h=>by omega))).trans t0;have hb' :=hb.turn t1 (.inr rfl);have hl:(xs++ [x]).length=xs.length+1:=by simp
 have hown:∀g,(Value.slice a' (xs.length+1) c').ownBlock=some g->¬P g/\g≠b:=by
  intro g hg;rcases hat with e|e
  . rw[e]at hg;exact h3 g hg
  . rw[e]at hg;simp only[Option.some.injEq]at hg;exact⟨fun q=>by have:=h5 g q;omega,by omega⟩
 refine⟨a',c',W',hr,hb',⟨a',c',?_,Qam hO (by rw[hl];intro e;exact(hown b e.symm).2 rfl),by rw[hl];exact hown,h4,fun k hk=>by have:=h5 k hk;have:=t1.size;simp;omega⟩,(t1.mono (fun k hk=> .inl hk)).set h4 0 _⟩;have:=hb'.setAt 0 (.slice a' (xs.length+1) c');rw[hl];exact this
theorem Qfq (P:Nat->Prop) (b n:Nat) (hn:n<=2147483647) (xs:List UInt8) (hx:xs.length<=599999000) (w:World) (hW:Wr P b w xs):
 Calls Tryz.prog 77 #[.pointer (some ⟨b,0,none⟩),.int .i64 (n:Int)] w fun e w' =>e= .returned (.tuple #[])/\Turn P w w' /\Wr P b w' (xs++numB n):=by
 have hin:inB (n:Int) 0 2147483647=true:=by simp[inB];omega
 have hl0:=hidP (Qcx (n:=n) (by omega));have HW:=hidP hW;clear hW;go_enter Tryz.func77,Tryz.ntmps77;go_wp2_with fail;refine(Qc7 _ _ _ _).mono ?_;rintro e w ⟨rfl,rfl⟩;rw[hin];go_wp2
 go_loopw [1] (fun x W=>∃(m:Nat) (ys:List UInt8),x= .int .i64 (m:Int)/\m<=2147483647/\Hid (ys++numB m=xs++numB n)/\Hid (Wr P b W ys)/\Hid (Turn P w W)) (fun x _=>(intOf x).toNat)
 case atStart=>exact⟨n,xs,rfl,hn,rfl,HW,Turn.refl _ _⟩
 case round=>
  obtain⟨m,ys,rfl,hm,hy,hO,hT⟩:=hrel;have hyl:ys.length<=599999999:=by have h1:=congrArg List.length hy.out;have h2:=hl0.out;rw[List.length_append,List.length_append]at h1;omega
  obtain⟨a,c,p,hv,h3,h4,h5⟩:=hO.out;have c0:=p.row1;have q0:=p.lt;by_cases hlt:m<128
  . obtain⟨a',c',W',hr,p',hW',hT'⟩:=Qkk (x:=UInt8.ofNat m) (z:=(m:Int)) (by rw[UInt8.toNat_ofNat'];omega) p hv h3 h4 h5 (by omega);have HW' :=hidP hW';have HT' :=hidP (hT.out.trans hT');have d0:=p'.row1;have f0:=p'.thaw 0;have he:Hid (ys++ [UInt8.ofNat m]=xs++numB n):=(by show _=_;rw[← hy.out,Qd3 hlt]);clear hW' hT' hv p p' h3 h4 h5;go_wp2_with (at_builtin;refine Qac rfl _ _ _ rfl _ _ _ rfl rfl hr ?_)
    go_end0
    refine⟨rfl,HT'.out,?_⟩;have:=HW'.out;rwa [he.out]at this
  . have e8:((UInt8.ofNat (m % 128+128)).toNat:Int)=(m:Int) % 128+128:=(by rw[UInt8.toNat_ofNat'];omega);obtain⟨a',c',W',hr,p',hW',hT'⟩:=Qkk (x:=UInt8.ofNat (m % 128+128)) e8 p hv h3 h4 h5 (by omega);have HW' :=hidP hW';have HT' :=hidP (hT.out.trans hT');have d0:=p'.row1;have f0:=p'.thaw 0;have he:Hid (ys++ [UInt8.ofNat (m % 128+128)]++numB (m / 128)=xs++numB n):=(by show _=_;rw[← hy.out,Qfh hlt];simp);clear hW' hT' hv p p' e8 h3 h4 h5;go_wp2_with (at_builtin;refine Qac rfl _ _ _ rfl _ _ _ rfl rfl hr ?_);refine⟨⟨m / 128,ys++ [UInt8.ofNat (m % 128+128)],?_,by omega,he,HW',HT'⟩,?_⟩
    . show Value.int .i64 _=Value.int .i64 _;congr 1
    . simp[intOf];omega
theorem Qhe {P:Program} {w w' :World} {ops:Array Oper} {rest:List Oper} {o:Oper} {a:Act} {Q:Exit->Act->World->Prop} (hgd:o.guard=none) (s x:Operand) (t u:TypeId)
 (ho:o.op= .call {callee:= .builtin .append,args:= #[s,x],argTypes:= #[t,u]}) (v xv r:Value) (hs:a.eval s=v) (hx:a.eval x=xv)
 (hr:(Builtin.append_ #[t,u] o.type #[v,xv]).run P w= .ok r w') (h:wpList P ops Q rest (a.put o.dst r) w'):wpList P ops Q (o::rest) a w:=by
 refine wpList_plain hgd fun _ hK=> ?_
 unfold Oper.wp execOp;simp only[ho,resolve,invoke,builtin,Sem.run_bind,Sem.run_pure,Result.andThen_ok,List.map_toArray,List.map_cons,List.map_nil,hs,hx,hr];exact hK _ _ h
theorem Qqw (s:ByteArray):flat s.data.toList=Go.Lib.strCells s:=Qd5 _
theorem Qq6 {B:Nat} {a:Option Addr} {c:Nat} {xs:List UInt8} (s:ByteArray) {W:World} (hB:B<=W.heap.size) (hv:W.ownsRow B 5 1 (.slice a xs.length c) xs.length (flat xs)) (hlen:xs.length+s.size<=600000000):
 ∃a' c' W',(Builtin.append_ #[22,9] 22 (l1ST a xs.length c s)).run Tryz.prog W= .ok (.slice a' (xs.length+s.size) c') W' /\
  W'.ownsRow B 5 1 (.slice a' (xs++s.data.toList).length c') (xs++s.data.toList).length (flat (xs++s.data.toList))/\W.grownBy W' (Value.slice a xs.length c).ownBlock/\((Value.slice a' (xs.length+s.size) c').ownBlock=(Value.slice a xs.length c).ownBlock∨(Value.slice a' (xs.length+s.size) c').ownBlock=some W.heap.size):=by
 obtain⟨i0,hi,hz0,hz1,hz2⟩:=info_parts Qj1;obtain⟨v',W',hr,hO,hg,hnil⟩:=Go.Lib.run_append_own_string (P:=Tryz.prog) W B 22 9 22 5 i0 Tryz.underlying22 Tryz.underlying9 hi hz0 hz1 hz2 (.slice a xs.length c) xs.length (flat xs) hv s (by simp[maxLen];omega) (by omega) hB;have hob:v'.ownBlock=(Value.slice a xs.length c).ownBlock∨v'.ownBlock=some W.heap.size:=by
  rcases hv.2 with⟨e,h0⟩|⟨g,cap,cur,e,hbg,hgb,hnc,hcm,hcs,htake⟩
  . by_cases hm:s.size=0
    . left;rw[hnil.2 ⟨e,hm⟩,e]
    . rw[e]at hr;have hr2:=run_append_nil_string (P:=Tryz.prog) W 22 9 22 5 i0 (.int .u8 0) Tryz.underlying22 Tryz.underlying9 hi hz0 s (by omega) (by omega) (by rw[hz2];omega);rw[hr]at hr2;simp only[Result.ok.injEq]at hr2
      right;rw[hr2.1];rfl
  . simp only[Value.slice.injEq]at e;obtain⟨rfl,_,rfl⟩:=e;by_cases hroom:xs.length+s.size<=c
    . have hr2:=Go.Lib.run_append_room_string (P:=Tryz.prog) W 22 9 22 5 i0 Tryz.underlying22 Tryz.underlying9 hi hz1 g xs.length c cur hgb s hroom (by omega);rw[hr]at hr2;simp only[Result.ok.injEq]at hr2
      left;rw[hr2.1];rfl
    . have hr2:=Go.Lib.run_append_grow_string (P:=Tryz.prog) W 22 9 22 5 i0 (.int .u8 0) Tryz.underlying22 Tryz.underlying9 hi hz0 ⟨g,0,none⟩ xs.length c (flat xs) (by rw[hz1];exact hv.1) (hv.cells (g:=g) rfl) s (by omega) (by omega) (by rw[hz2];exact growslice_fits (by omega) (by omega));rw[hr]at hr2;simp only[Result.ok.injEq]at hr2
      right;rw[hr2.1];rfl
 obtain⟨a',c',rfl,_⟩:=Qao hO;refine⟨a',c',W',hr,?_,hg,hob⟩;have e1:(xs++s.data.toList).length=xs.length+s.size:=by rw[List.length_append,Array.length_toList];rfl
 have e2:flat (xs++s.data.toList)=flat xs++Go.Lib.strCells s:=by rw[Qdd,Qqw]
 rw[e1,e2];exact hO
theorem Qrl {P:Nat->Prop} {b:Nat} {a:Option Addr} {c:Nat} {xs:List UInt8} (s:ByteArray) {W:World} (hb:Blk W b 82 #[.slice a xs.length c]) (hv:W.ownsRow 0 5 1 (.slice a xs.length c) xs.length (flat xs))
 (h3:∀g,(Value.slice a xs.length c).ownBlock=some g->¬P g/\g≠b) (h4:¬P b) (h5:∀k,P k->k<W.heap.size) (hlen:xs.length+s.size<=600000000):
 ∃a' c' W',(Builtin.append_ #[22,9] 22 (l1ST a xs.length c s)).run Tryz.prog W= .ok (.slice a' (xs.length+s.size) c') W' /\
  Blk W' b 82 #[.slice a xs.length c]/\Wr P b (W'.setCell ⟨b,0,none⟩ (.slice a' (xs.length+s.size) c')) (xs++s.data.toList)/\Turn P W (W'.setCell ⟨b,0,none⟩ (.slice a' (xs.length+s.size) c')):=by
 obtain⟨a',c',W',hr,hO,hg,hat⟩:=Qq6 s (Nat.zero_le _) hv hlen;have hlt:=hb.lt;have t1:Turn (fun k=>P k∨k=b) W W' :=Qh1 hg (fun g hg q=>q.elim (h3 g hg).1 (h3 g hg).2) (fun k h=>h.elim (h5 k) (fun h=>by omega));have hb' :=hb.turn t1 (.inr rfl);have hl:(xs++s.data.toList).length=xs.length+s.size:=by rw[List.length_append,Array.length_toList];rfl
 have hown:∀g,(Value.slice a' (xs.length+s.size) c').ownBlock=some g->¬P g/\g≠b:=by
  intro g hg;rcases hat with e|e
  . rw[e]at hg;exact h3 g hg
  . rw[e]at hg;simp only[Option.some.injEq]at hg;exact⟨fun q=>by have:=h5 g q;omega,by omega⟩
 refine⟨a',c',W',hr,hb',⟨a',c',?_,Qam hO (by rw[hl];intro e;exact(hown b e.symm).2 rfl),by rw[hl];exact hown,h4,fun k hk=>by have:=h5 k hk;have:=t1.size;simp;omega⟩,(t1.mono (fun k hk=> .inl hk)).set h4 0 _⟩;have:=hb'.setAt 0 (.slice a' (xs.length+s.size) c');rw[hl];exact this
theorem Qe8 (P:Nat->Prop) (b:Nat) (s:ByteArray) (xs:List UInt8) (hx:xs.length+s.size<=599998000) (w:World) (hW:Wr P b w xs):
 Calls Tryz.prog 54 #[.pointer (some ⟨b,0,none⟩),.string s] w fun e w' =>e= .returned (.tuple #[])/\Turn P w w' /\Wr P b w' (xs++(numB s.size++s.data.toList)):=by
 have hl0:=hidP (Qcx (n:=s.size) (by omega));have HW:=hidP hW;clear hW;go_enter Tryz.func54,Tryz.ntmps54;go_wp2_with fail;refine(Qfq P b s.size (by omega) xs (by omega) _ HW.out).mono ?_;rintro e w1 ⟨rfl,t1,hW1⟩;obtain⟨a,c,p,hv,h3,h4,h5⟩:=hW1;have c0:=p.row1;have q0:=p.lt;have hl1:(xs++numB s.size).length+s.size<=600000000:=by have:=hl0.out;rw[List.length_append];omega
 generalize hys:xs++numB s.size=ys at*;obtain⟨a',c',W',hr,p',hW',hT'⟩:=Qrl s p hv h3 h4 h5 hl1;have d0:=p'.row1;have f0:=p'.thaw 0;have HW' :=hidP hW';have HT:=hidP (t1.trans hT');have Hys:=hidP hys;clear hW' hT' hv p p' t1 HW hys h3 h4 h5;go_wp2_with (at_builtin;refine Qhe rfl _ _ _ _ rfl _ _ _ rfl rfl hr ?_)
 go_end0
 refine⟨rfl,HT.out,?_⟩;rw[← List.append_assoc,Hys.out];exact HW'.out
end Go.Proofs.YtajbldnhjpjghaaGreat.Gen
