/-
  The specification's GetNum: the number that begins at a place, and the place behind it. Condition: at most 1048576 bytes.
-/
import Derived.Test.YtajbldnhjpjghaaGreatDoorFps
import Derived.WalkSmall
import Derived.Lib.EndianBits
import Derived.BigQuiet
set_option linter.unusedVariables false
set_option linter.unusedSimpArgs false
set_option maxRecDepth 100000
set_option maxHeartbeats 8000000
set_option maxRecDepth 100000
set_option maxHeartbeats 8000000
namespace Go.Proofs.YtajbldnhjpjghaaGreatDoor.Gen
open ChangeShapes WideShapes ChangeAt RowKit Joins Deep Base
def numT (o:Option (Nat × Nat)):Value:=match o with
  |some (n,c)=> .tuple (l1IIB (n:Int) (c:Int) true)
  |none=> .tuple l0IIB
def rest (l:List UInt8) (i:Int) (k acc:Nat):Option (Nat × Nat):=if 0<=i then(getD (5 - k) k acc (l.drop (i.toNat+k))).map fun x=>(x.1,i.toNat+x.2)else none
theorem Qjh (l:List UInt8) (i:Int):rest l i 0 0=getN l i:=rfl
theorem rest_neg {l:List UInt8} {i:Int} {k acc:Nat} (h:i<0):rest l i k acc=none:=if_neg (by omega)
theorem Qjj {l:List UInt8} {i:Int} {k acc:Nat} (h:(l.length:Int)<=i+(k:Int)):rest l i k acc=none:=by
 unfold rest;split
 . rw[getD_past (by omega)];rfl
 . rfl
theorem Qjk {l:List UInt8} {i:Int} {acc:Nat}:rest l i 5 acc=none:=by
 unfold rest;split<;>rfl
theorem Qji {l:List UInt8} {j k:Nat} (hk:k<5) (acc:Nat) (h:j+k<l.length):
 rest l (j:Int) k acc=if(l[j+k]).toNat<128 then(if(0<k/\(l[j+k]).toNat=0)∨2147483647<acc+(l[j+k]).toNat % 128*128 ^ k then none else some (acc+(l[j+k]).toNat % 128*128 ^ k,j+k+1))
  else rest l (j:Int) (k+1) (acc+(l[j+k]).toNat % 128*128 ^ k):=by
 unfold rest;have hj:(0:Int)<=(j:Int):=by omega
 simp only[hj,if_true];have e:5 - k=(5 - (k+1))+1:=by omega
 have e2:(j:Int).toNat=j:=by omega
 rw[e,e2,getD_next h];split
 . split
   . rfl
   . simp;omega
 . rfl
theorem Qf0 (n:Int) (h: -9223372036854775808<=n/\n<=9223372036854775807):wrap64 n=n:=by unfold wrap64;omega
theorem or_join {k acc d:Nat} (hk:k<5) (hacc:acc<128 ^ k) (hd:d<256):bits .or .i64 (acc:Int) (wrap64 ((d:Int) % 128*2 ^ (7*k)))=((acc+d % 128*128 ^ k:Nat):Int):=by
 have hw:∀n:Int,0<=n->n<2 ^ 62->IntKind.i64.wrap n=n:=fun n h0 h1=>by
  have:IntKind.i64.wrap n=wrap64 n:=by simp[go_sem,wrap64,IntKind.wrap_i64]
  rw[this];exact Qf0 n (by omega)
 have hk' :k=0∨k=1∨k=2∨k=3∨k=4:=by omega
 rcases hk' with rfl|rfl|rfl|rfl|rfl
 . rw[Qf0 _ (by omega),bits_join_low .i64 62 (by decide) hw 0 _ _ (by omega) (by omega) (by omega) (by omega) (by omega) (by omega)];omega
 . rw[Qf0 _ (by omega),bits_join_low .i64 62 (by decide) hw 7 _ _ (by omega) (by omega) (by omega) (by omega) (by omega) (by omega)];omega
 . rw[Qf0 _ (by omega),bits_join_low .i64 62 (by decide) hw 14 _ _ (by omega) (by omega) (by omega) (by omega) (by omega) (by omega)];omega
 . rw[Qf0 _ (by omega),bits_join_low .i64 62 (by decide) hw 21 _ _ (by omega) (by omega) (by omega) (by omega) (by omega) (by omega)];omega
 . rw[Qf0 _ (by omega),bits_join_low .i64 62 (by decide) hw 28 _ _ (by omega) (by omega) (by omega) (by omega) (by omega) (by omega)];omega
theorem acc_next {k acc d:Nat} (hk:k<5) (hacc:acc<128 ^ k) (hd:d<256):acc+d % 128*128 ^ k<128 ^ (k+1):=by
 have hk' :k=0∨k=1∨k=2∨k=3∨k=4:=by omega
 rcases hk' with rfl|rfl|rfl|rfl|rfl<;>omega
theorem acc_le {k acc:Nat} (hk:k<=5) (hacc:acc<128 ^ k):acc<34359738368:=by
 have hk' :k=0∨k=1∨k=2∨k=3∨k=4∨k=5:=by omega
 rcases hk' with rfl|rfl|rfl|rfl|rfl|rfl<;>omega
theorem Qdq (A:Option Addr) (cap:Nat) (l:List UInt8) (hl:l.length<=1048576) (i:Int) (hi:I64 i) (w:World) (hA:At w A l):
 Calls Tryz.prog 34 #[.slice A l.length cap,.int .i64 i] w fun e w' =>e= .returned (numT (getN l i))/\w' =w:=by
 have HA:=hidP hA;have hi' :=hidP hi;clear hA hi;go_enter Tryz.func34,Tryz.ntmps34;go_wp2
 go_loopw [7,8] (fun v7 v8 W=>∃(k acc:Nat),v7= .int .i64 (acc:Int)/\v8= .int .i64 (k:Int)/\k<=5/\Hid (acc<128 ^ k)/\W=w/\Hid (getN l i=rest l i k acc)) (fun _ v8 _=>5 - (intOf v8).toNat)
 case atStart=>exact⟨0,0,rfl,rfl,by omega,by show 0<1;omega,rfl,Qjh l i⟩
 case round=>
  obtain⟨k,acc,rfl,rfl,hk,hacc,rfl,hR⟩:=hrel;by_cases h5:k<5
  . have h5' :(k:Int)<5:=(by omega);by_cases h0:i<0
    . have hN:=hidP (hR.out.trans (rest_neg h0));go_wp2;exact bodyPost_ret (v:= .tuple l0IIB) (by simp[results,Tryz.results34,go_sem]) rfl ⟨by rw[hN.out];rfl,rfl⟩
    . obtain⟨j,rfl⟩:∃j:Nat,i=(j:Int):=⟨i.toNat,by omega⟩
      by_cases hp:j+k<l.length
      . obtain⟨b,o,rfl,hbs,hin⟩:∃b o,A=some ⟨b,o,none⟩/\b<wr.heap.size/\In wr b o l:=by
         rcases HA.out with h|h
         . subst h;simp at hp
         . exact h
        have c0:=hin.getB (j+k) hp;have hp1:¬((l.length:Int) - (k:Int)<=(j:Int)):=(by omega);have hp2:((j:Int)+(k:Int))<(l.length:Int):=(by omega);have hp3:(0:Int)<=(j:Int)+(k:Int):=(by omega);have hst:=hidP (Qji h5 acc hp);generalize hd:(l[j+k]).toNat=d at*;have hd2:d<256:=(by rw[← hd];exact(l[j+k]).toNat_lt);have hor:=or_join h5 hacc.out hd2;have hnx:=hidP (acc_next h5 hacc.out hd2);have hn35:=acc_le (k:=k+1) (by omega) hnx.out;generalize acc+d % 128*128 ^ k=N at*;by_cases hd1:d<128
        . rw[if_pos hd1]at hst;by_cases hbad:(0<k/\d=0)∨2147483647<N
          . rw[if_pos hbad]at hst;have hN:=hidP (hR.out.trans hst.out);clear hst;by_cases hz:0<k/\d=0
            focus
             obtain⟨hz1,rfl⟩:=hz
            rotate_left
            focus
             have hN1:2147483647<N:=(by omega);have hN2:(2147483647:Int)<(N:Int):=(by omega);by_cases hk0:0<k
             focus
              have hd0:¬d=0:=(by omega);have hd0' :((d:Int)==0)=false:=by simp;omega
             rotate_left
             focus
              skip
            all_goals
             go_wp2;exact bodyPost_ret (v:= .tuple l0IIB) (by simp[results,Tryz.results34,go_sem]) rfl ⟨by rw[hN.out];rfl,rfl⟩
          . rw[if_neg hbad]at hst;have hN:=hidP (hR.out.trans hst.out);have hN1:N<=2147483647:=(by omega);have hN2:¬((2147483647:Int)<(N:Int)):=(by omega);clear hst;by_cases hk0:0<k
            . have hd0:¬d=0:=(by omega);have hd0' :((d:Int)==0)=false:=(by simp;omega);go_wp2;exact bodyPost_ret (v:= .tuple (l1IIB (N:Int) ((j:Int)+(k:Int)+1) true)) (by simp[results,Tryz.results34,go_sem]) rfl ⟨by rw[hN.out];rfl,rfl⟩
            . go_wp2;exact bodyPost_ret (v:= .tuple (l1IIB (N:Int) ((j:Int)+(k:Int)+1) true)) (by simp[results,Tryz.results34,go_sem]) rfl ⟨by rw[hN.out];rfl,rfl⟩
        . rw[if_neg hd1]at hst;have hN:=hidP (hR.out.trans hst.out);clear hst;go_wp2;exact⟨⟨k+1,N,rfl,by go_num,by omega,hnx,trivial,hN⟩,by simp[intOf];omega⟩
      . have hN:=hidP (hR.out.trans (Qjj (by omega)));have hp1:(l.length:Int) - (k:Int)<=(j:Int):=(by omega);go_wp2;exact bodyPost_ret (v:= .tuple l0IIB) (by simp[results,Tryz.results34,go_sem]) rfl ⟨by rw[hN.out];rfl,rfl⟩
  . obtain rfl:k=5:=(by omega);have hN:=hidP (hR.out.trans Qjk);go_wp2;exact bodyPost_ret (v:= .tuple l0IIB) (by simp[results,Tryz.results34,go_sem]) rfl ⟨by rw[hN.out];rfl,rfl⟩
structure Rd (W:World) (r:Nat) (A:Option Addr) (cap:Nat) (l:List UInt8) (i:Int):Prop where
  box:Blk W r 120 #[.slice A l.length cap,.int .i64 i]
  src:l= []∨∃b o,A=some ⟨b,o,none⟩/\b<W.heap.size/\b≠r/\In W b o l
  i64:I64 i
theorem Rd.below {W W' :World} {r:Nat} {A:Option Addr} {cap:Nat} {l:List UInt8} {i:Int} (h:Rd W r A cap l i) (g:Below W.heap.size W W'):Rd W' r A cap l i:=
 ⟨h.box.below g h.box.lt,h.src.imp id fun⟨b,o,e,hb,hn,hi⟩=>⟨b,o,e,Nat.lt_of_lt_of_le hb g.size,hn,hi.below hb g⟩,h.i64⟩
theorem Rd.goto {W:World} {r:Nat} {A:Option Addr} {cap:Nat} {l:List UInt8} {i:Int} (h:Rd W r A cap l i) (j:Int) (hj:I64 j):Rd (W.setCell ⟨r,1,none⟩ (.int .i64 j)) r A cap l j:=
 ⟨h.box.setAt 1 _,h.src.imp id fun⟨b,o,e,hb,hn,hi⟩=>⟨b,o,e,by simpa using hb,hn,hi.set _ _ (fun e=>hn e.symm)⟩,hj⟩
theorem Qby {b:Nat} {a w:World} (h:Only b a w) (n:Nat):Only b a (w.drewN n):=h.below (below_drewN (Below.refl _ _) n)
theorem Rd.drewN {W:World} {r:Nat} {A:Option Addr} {cap:Nat} {l:List UInt8} {i:Int} (h:Rd W r A cap l i) (n:Nat):Rd (W.drewN n) r A cap l i:=h.below (below_drewN (Below.refl _ _) n)
theorem next_any (r:Nat) (A:Option Addr) (cap:Nat) (l:List UInt8) (j:Nat) (hj:j<l.length) (hl:l.length<=1048576) (w:World) (h:Rd w r A cap l (j:Int)):
 Calls Tryz.prog 84 #[.pointer (some ⟨r,0,none⟩)] w fun e w' =>e= .returned (.int .i64 (l[j].toNat:Int))/\Only r w w' /\Rd w' r A cap l ((j+1:Nat):Int):=by
 obtain⟨c0,c1⟩:=h.box.row2;have f1:=h.box.thaw 1;have q0:=h.box.lt;obtain⟨b,o,rfl,hbs,hne,hin⟩:∃b o,A=some ⟨b,o,none⟩/\b<w.heap.size/\b≠r/\In w b o l:=by
  rcases h.src with h|h
  . subst h;simp at hj
  . exact h
 have d0:=hin.getB j hj;have hd2:(l[j]).toNat<256:=(l[j]).toNat_lt;generalize (l[j]).toNat=d at*;have HR:=hidP h;have hp1:(0:Int)<=(j:Int):=by omega
 have hp0:decide ((j:Int)<0)=false:=by simp
 have hp3:decide ((l.length:Int)<=(j:Int))=false:=by simp;omega
 have hp2:(j:Int)<(l.length:Int):=by omega
 clear h hin;go_enter Tryz.func84,Tryz.ntmps84;go_wp2_with fail
 go_quiet (fail)
 go_wp2_with fail
 go_quiet (fail)
 go_wp2;go_ret;refine⟨rfl,?_,?_⟩
 . exact(Qby (Only.refl _ _) _).set _ _
 . exact(HR.out.drewN _).goto ((j+1:Nat):Int) ⟨by omega,by omega⟩
theorem Qjw (r:Nat) (A:Option Addr) (cap:Nat) (l:List UInt8) (i:Int) (hj:¬(0<=i/\i<(l.length:Int))) (hl:l.length<=1048576) (w:World) (h:Rd w r A cap l i):
 Calls Tryz.prog 84 #[.pointer (some ⟨r,0,none⟩)] w fun e w' =>e= .panicked [{v:= .iface 9 (.string ⟨#[110,111,32,110,117,109,98,101,114]⟩),recovered:=false}]/\Only r w w' :=by
 obtain⟨c0,c1⟩:=h.box.row2;have q0:=h.box.lt;clear h;by_cases h0:i<0
 . have hp0:decide (i<0)=true:=(by simpa using h0);clear hj;go_enter Tryz.func84,Tryz.ntmps84;go_wp2_with fail
   go_quiet (fail)
   go_wp2;exact⟨rfl,rfl,Qby (Only.refl _ _) _⟩
 . have hp0:decide (i<0)=false:=(by simp;omega);have hp3:decide ((l.length:Int)<=i)=true:=(by simp;omega);clear hj h0;go_enter Tryz.func84,Tryz.ntmps84;go_wp2_with fail
   go_quiet (fail)
   go_wp2;exact⟨rfl,rfl,Qby (Only.refl _ _) _⟩
def Qfl {α:Type} (R:α->Value->World->Prop) (r:Nat) (A:Option Addr) (cap:Nat) (l:List UInt8) (w:World) (e:Ending) (w' :World):Option (α × Nat)->Prop
  |some (x,c)=>Only r w w' /\Rd w' r A cap l (c:Int)/\∃v,e= .returned v/\R x v w'
  |none=>Only r w w' /\∃t v,e= .panicked [{v:= .iface t v,recovered:=false}]
def isNum (n:Nat) (v:Value) (_:World):Prop:=v= .int .i64 (n:Int)
def isTxt (s:ByteArray) (v:Value) (_:World):Prop:=v= .string s
theorem Qao {b:Nat} {w w1 w2:World} (h:Only b w w1) (k:Only b w1 w2):Only b w w2:=
 ⟨k.os.trans h.os,k.tape.trans h.tape,k.output.trans h.output,Nat.le_trans h.size k.size,fun i hi hb=>(k.block i (Nat.lt_of_lt_of_le hi h.size) hb).trans (h.block i hi hb)⟩
theorem sum_join {k acc d:Nat} (hk:k<5) (hacc:acc<128 ^ k) (hd:d<256):(acc:Int)+wrap64 ((d:Int) % 128*2 ^ (k*7))=((acc+d % 128*128 ^ k:Nat):Int):=by
 have hk' :k=0∨k=1∨k=2∨k=3∨k=4:=by omega
 rcases hk' with rfl|rfl|rfl|rfl|rfl<;>rw[Qf0 _ (by omega)]<;>omega
theorem Qbn (r:Nat) (A:Option Addr) (cap:Nat) (l:List UInt8) (i:Int) (hl:l.length<=1048576) (w:World) (h:Rd w r A cap l i):
 Calls Tryz.prog 61 #[.pointer (some ⟨r,0,none⟩)] w fun e w' =>Qfl isNum r A cap l w e w' (getN l i):=by
 have HR:=hidP h;clear h;go_enter Tryz.func61,Tryz.ntmps61;go_wp2
 go_loopw [3,6] (fun v3 v6 W=>∃(k acc:Nat),v3= .int .i64 (acc:Int)/\v6= .int .i64 (k:Int)/\k<=5/\Hid (acc<128 ^ k)/\Hid (Only r w W)/\Hid (k=0∨0<=i)/\Hid (Rd W r A cap l (i+(k:Int)))/\Hid (getN l i=rest l i k acc)) (fun _ v6 _=>5 - (intOf v6).toNat)
 case atStart=>exact⟨0,0,rfl,rfl,by omega,by show 0<1;omega,Only.refl _ _,.inl rfl,by simpa using HR,Qjh l i⟩
 case round=>
  obtain⟨k,acc,rfl,rfl,hk,hacc,hO,hpos,hR,hrest⟩:=hrel;by_cases h5:k<5
  . have h5' :(k:Int)<5:=(by omega);by_cases hin:0<=i+(k:Int)/\i+(k:Int)<(l.length:Int)
    . obtain⟨j,rfl⟩:∃j:Nat,i=(j:Int):=⟨i.toNat,by rcases hpos.out with h|h<;>omega⟩
      have hp:j+k<l.length:=(by omega);have hR' :Hid (Rd wr r A cap l ((j+k:Nat):Int)):=hR;have hst:=hidP (Qji h5 acc hp);have hd2:(l[j+k]).toNat<256:=(l[j+k]).toNat_lt;clear hin;go_wp2_with fail;refine(next_any r A cap l (j+k) hp hl _ hR'.out).mono ?_;rintro e w1 ⟨rfl,o1,r1⟩;generalize (l[j+k]).toNat=d at*;have hO1:=hidP (Qao hO.out o1);have hR1:Hid (Rd w1 r A cap l ((j:Int)+((k+1:Nat):Int))):=by
       have e:(j:Int)+((k+1:Nat):Int)=((j+k+1:Nat):Int):=(by omega);show Rd _ _ _ _ _ _;rw[e];exact r1
      have hor:=sum_join h5 hacc.out hd2;have hnx:=hidP (acc_next h5 hacc.out hd2);have hn35:=acc_le (k:=k+1) (by omega) hnx.out;have hal:=acc_le hk hacc.out;clear o1 r1 hR hR' hO;generalize acc+d % 128*128 ^ k=N at*;by_cases hd1:d<128
      . rw[if_pos hd1]at hst;have hd128:¬(128:Int)<=(d:Int):=(by omega);by_cases hbad:(0<k/\d=0)∨2147483647<N
        . rw[if_pos hbad]at hst;have hN:=hidP (hrest.out.trans hst.out);clear hst hrest;by_cases hz:0<k/\d=0
          . obtain⟨hz1,rfl⟩:=hz;have hz2:decide ((0:Int)<(k:Int))=true:=(by simp;omega);have hz3:(0:Int)<(k:Int):=(by omega);go_wp2;refine⟨rfl,?_⟩;rw[hN.out];exact⟨hO1.out,_,_,rfl⟩
          . have hN1:2147483647<N:=(by omega);have hN2:(2147483647:Int)<(N:Int):=(by omega);by_cases hd0:d=0
            . subst hd0;obtain rfl:k=0:=(by omega);have:=hnx.out;exfalso;omega
            . have hd0' :((d:Int)==0)=false:=(by simp;omega);go_wp2;refine⟨rfl,?_⟩;rw[hN.out];exact⟨hO1.out,_,_,rfl⟩
        . rw[if_neg hbad]at hst;have hN:=hidP (hrest.out.trans hst.out);have hN1:N<=2147483647:=(by omega);have hN2:¬((2147483647:Int)<(N:Int)):=(by omega);clear hst hrest;by_cases hd0:d=0
          . subst hd0;obtain rfl:k=0:=(by omega);obtain rfl:acc=0:=(by have:=hacc.out;omega);obtain rfl:N=0:=(by rw[Qf0 _ (by simp)]at hor;simp at hor;omega);clear hor;go_wp2;go_ret;rw[hN.out];exact⟨hO1.out,hR1.out,_,rfl,rfl⟩
          . have hd0' :((d:Int)==0)=false:=(by simp;omega);go_wp2;go_ret;rw[hN.out];exact⟨hO1.out,hR1.out,_,rfl,rfl⟩
      . rw[if_neg hd1]at hst;have hN:=hidP (hrest.out.trans hst.out);clear hst hrest;go_wp2;exact⟨⟨k+1,N,rfl,by go_num,by omega,hnx,hO1,hidP (.inr (by omega)),hR1,hN⟩,by simp[intOf];omega⟩
    . have hN:Hid (getN l i=none):=by
       show _=_;rw[hrest.out];by_cases h0:i<0
       . exact rest_neg h0
       . exact Qjj (by omega)
      go_wp2_with fail;refine(Qjw r A cap l _ hin hl _ hR.out).mono ?_;rintro e w1 ⟨rfl,o1⟩;refine⟨rfl,?_⟩;rw[hN.out];exact⟨Qao hO.out o1,_,_,rfl⟩
  . obtain rfl:k=5:=(by omega);have hN:=hidP (hrest.out.trans Qjk);go_wp2;refine⟨rfl,?_⟩;rw[hN.out];exact⟨hO.out,_,_,rfl⟩
end Go.Proofs.YtajbldnhjpjghaaGreatDoor.Gen
