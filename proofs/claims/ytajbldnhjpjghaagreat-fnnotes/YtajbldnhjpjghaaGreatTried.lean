/-
  What is tried: a function that returns, or panics with a value of some type: told by true or false, and nothing else turns but one new box. No condition.
-/
import Derived.Test.YtajbldnhjpjghaaGreatSGetNum
set_option linter.unusedVariables false
set_option linter.unusedSimpArgs false
set_option maxRecDepth 100000
set_option maxHeartbeats 8000000
set_option maxRecDepth 100000
set_option maxHeartbeats 8000000
namespace Go.Proofs.YtajbldnhjpjghaaGreat.Gen
open ChangeShapes WideShapes ChangeAt RowKit Joins Deep Base
theorem Qhc (p:Addr) (x:Value) (u:TypeId) (pv:Value) (older:List PanicEntry) (w:World) (hc:w.cell? p=some x) (hz:w.frozen? p=false):
 CallsD Tryz.prog 76 #[.pointer (some p)] (.panicking ({v:= .iface u pv,recovered:=false}::older)) w fun e u' w' =>
  e= .returned (.tuple #[])/\u' = .panicking ({v:= .iface u pv,recovered:=true}::older)/\w' =w.setCell p (.bool false):=by
 refine callsD_of_wpS Tryz.func76 rfl fun c₀ cs hu=> ?_
 apply wpS_region;simp[wpOpsS,go_sem,recoverD,hu,Tryz.ntmps76,hc,hz,bodyPostS,results,Tryz.results76]
theorem Qm5 (p:Addr) (x:Value) (w:World) (hc:w.cell? p=some x) (hz:w.frozen? p=false):
 CallsD Tryz.prog 76 #[.pointer (some p)] .returning w fun e u' w' =>e= .returned (.tuple #[])/\u' = .returning/\w' =w.setCell p (.bool true):=by
 refine callsD_of_wpS Tryz.func76 rfl fun c₀ cs hu=> ?_
 apply wpS_region;simp[wpOpsS,go_sem,recoverD,hu,Tryz.ntmps76,hc,hz,bodyPostS,results,Tryz.results76];cases c₀
 simp_all
theorem Qfa (f:FuncId) (cap:Array Value) (w:World) (R S:World->Prop) (hcf:∀W:World,(callFunc f cap).run Tryz.prog W= .ok (.enter f cap) W)
 (h:Calls Tryz.prog f cap (w.alloc (.cells #[.bool false] 4)) fun e W=>Blk W w.heap.size 4 #[.bool false]/\((e= .returned (.tuple #[])/\R W)∨(∃t v,e= .panicked [{v:= .iface t v,recovered:=false}]/\S W))):
 Calls Tryz.prog 49 #[.func (.func f) #[] cap] w fun e W=>∃W0,Only w.heap.size W0 W/\((e= .returned (.bool true)/\R W0)∨(e= .returned (.bool false)/\S W0)):=by
 have hmf:∀(fn:Fn) (first cap:Array Value) (w:World),(Instr.makeFunc fn first cap).run Tryz.prog w= .ok (.func fn first cap) w:=fun _ _ _ _=>rfl
 have HH:=hidP h;clear h
 go_enter_defers Tryz.func49,Tryz.ntmps49
 go_wp2_with fail;refine HH.out.mono ?_;rintro e W ⟨p,h⟩;have c0:=p.row1;have f0:=p.thaw 0;have q0:=p.lt;have c1:=(p.setAt 0 (.bool true)).row1;have f1:=(p.setAt 0 (.bool true)).thaw 0;rcases h with⟨rfl,hR⟩|⟨t,v,rfl,hS⟩
 . go_wp2;refine leaves_cons (f:=76) (args:= #[.pointer (some ⟨w.heap.size,0,none⟩)]) (by simp) (by simp[go_sem]) ?_;refine(Qm5 ⟨w.heap.size,0,none⟩ _ _ c1 f1).mono ?_;rintro e u' w'' ⟨rfl,rfl,rfl⟩;have c2:=((p.setAt 0 (.bool true)).setAt 0 (.bool true)).row1;refine⟨.bool true,?_,W,((Only.refl _ _).set 0 _).set 0 _,.inl ⟨rfl,hR⟩⟩;simp only[results,Tryz.results49];simp[go_sem,c2]
 . refine leaves_cons (f:=76) (args:= #[.pointer (some ⟨w.heap.size,0,none⟩)]) (by simp) (by simp[go_sem]) ?_;refine(Qhc ⟨w.heap.size,0,none⟩ _ t v [] _ c0 f0).mono ?_;rintro e u' w'' ⟨rfl,rfl,rfl⟩;have c2:=(p.setAt 0 (.bool false)).row1;refine⟨.bool false,?_,W,(Only.refl _ _).set 0 _,.inr ⟨rfl,hS⟩⟩;simp only[results,Tryz.results49];simp[go_sem,c2]
def WEnd (P:Nat->Prop) (b:Nat) (W' :World) (e:Ending):Option (List UInt8)->Prop
  |some L=>e= .returned (.tuple #[])/\Wr P b W' L
  |none=>∃t v,e= .panicked [{v:= .iface t v,recovered:=false}]
def Qh5 (f:FuncId) (cap:Array Value) (o:Option (List UInt8)) (P:Nat->Prop) (b:Nat) (W:World):Prop:=
  Calls Tryz.prog f (#[.pointer (some ⟨b,0,none⟩)]++cap) W fun e W' =>Turn P W W' /\WEnd P b W' e o
theorem Qmh {B:Nat} {W:World} {v:Value} {t:TypeId} {k n:Nat} {xs:List Value} (h:W.ownsRow 0 t k v n xs) (hB:∀g,v.ownBlock=some g->B<=g):W.ownsRow B t k v n xs:=by
 refine⟨h.1,?_⟩;rcases h.2 with⟨rfl,rfl⟩|⟨g,c,cur,rfl,_,hg,hc,hm,hsz,ht⟩
 . exact .inl ⟨rfl,rfl⟩
 . exact .inr ⟨g,c,cur,rfl,hB g rfl,hg,hc,hm,hsz,ht⟩
theorem Qbi {B b:Nat} {W W' :World} {v:Value} {t:TypeId} {k n:Nat} {xs:List Value} (h:W.ownsRow B t k v n xs) (hb:Only b W W') (hlt:b<B):W'.ownsRow B t k v n xs:=by
 refine⟨h.1,?_⟩;rcases h.2 with⟨rfl,rfl⟩|⟨g,c,cur,rfl,hB,hg,hc,hm,hsz,ht⟩
 . exact .inl ⟨rfl,rfl⟩
 . exact .inr ⟨g,c,cur,rfl,hB,Blk.only (show Blk W g t cur from hg) hb (by omega),hc,hm,hsz,ht⟩
theorem Qiw (f:FuncId) (cap:Array Value) (o:Option (List UInt8)) (P:Nat->Prop) (b z y:Nat) (W:World) (hcf:∀(p:Value) (W:World),(callFunc f (#[p]++cap)).run Tryz.prog W= .ok (.enter f (#[p]++cap)) W)
 (p:Blk W z 45 #[.func (.func f) #[] cap]) (q:Blk W y 43 #[.pointer (some ⟨b,0,none⟩)]) (h:Qh5 f cap o P b W):
 Calls Tryz.prog 50 #[.pointer (some ⟨z,0,none⟩),.pointer (some ⟨y,0,none⟩)] W fun e W' =>Turn P W W' /\WEnd P b W' e o:=by
 have HH:=hidP h;have c0:=p.row1;have c1:=q.row1;clear h p q;go_enter Tryz.func50,Tryz.ntmps50;go_wp2_with fail;refine HH.out.mono ?_;rintro e W' ⟨t1,h⟩;cases o with
 |some L=>
  obtain⟨rfl,h⟩:=h;go_wp2
  go_end0
  exact⟨t1,rfl,h⟩
 |none=>
  obtain⟨t,v,rfl⟩:=h;exact⟨rfl,t1,t,v,rfl⟩
theorem Qgj (f:FuncId) (cap:Array Value) (o:Option (List UInt8)) (w:World) (hcf:∀(p:Value) (W:World),(callFunc f (#[p]++cap)).run Tryz.prog W= .ok (.enter f (#[p]++cap)) W)
 (h:∀W,Below w.heap.size w W->∀(P:Nat->Prop) b,(∀k,k<w.heap.size->P k)->Wr P b W []->Qh5 f cap o P b W):
 Calls Tryz.prog 21 #[.func (.func f) #[] cap] w fun e w' =>∃a c,e= .returned (.slice a (o.getD []).length c)/\Below w.heap.size w w' /\w'.ownsRow w.heap.size 5 1 (.slice a (o.getD []).length c) (o.getD []).length (flat (o.getD [])):=by
 have hmf:∀(fn:Fn) (first cap:Array Value) (w:World),(Instr.makeFunc fn first cap).run Tryz.prog w= .ok (.func fn first cap) w:=fun _ _ _ _=>rfl
 have hcf1:∀W:World,(callFunc 50 #[.pointer (some ⟨w.heap.size,0,none⟩),.pointer (some ⟨w.heap.size+1+1,0,none⟩)]).run Tryz.prog W= .ok (.enter 50 #[.pointer (some ⟨w.heap.size,0,none⟩),.pointer (some ⟨w.heap.size+1+1,0,none⟩)]) W:=fun W=>by simp[go_sem]
 have pz:=(((Blk.new w 45 #[.func (.func f) #[] cap]).alloc (.cells #[.slice none 0 0] 82)).alloc (.cells #[.pointer (some ⟨w.heap.size+1,0,none⟩)] 43)).alloc (.cells #[.bool false] 4);have pb:=((Blk.new (w.alloc (.cells #[.func (.func f) #[] cap] 45)) 82 #[.slice none 0 0]).alloc (.cells #[.pointer (some ⟨w.heap.size+1,0,none⟩)] 43)).alloc (.cells #[.bool false] 4);have py:=(Blk.new ((w.alloc (.cells #[.func (.func f) #[] cap] 45)).alloc (.cells #[.slice none 0 0] 82)) 43 #[.pointer (some ⟨w.heap.size+1,0,none⟩)]).alloc (.cells #[.bool false] 4);have pd:=Blk.new (((w.alloc (.cells #[.func (.func f) #[] cap] 45)).alloc (.cells #[.slice none 0 0] 82)).alloc (.cells #[.pointer (some ⟨w.heap.size+1,0,none⟩)] 43)) 4 #[.bool false];have hbl:=Qad (Qad (Qad (Qad (Below.refl _ w) (.cells #[.func (.func f) #[] cap] 45)) (.cells #[.slice none 0 0] 82)) (.cells #[.pointer (some ⟨w.heap.size+1,0,none⟩)] 43)) (.cells #[.bool false] 4);simp only[World.size_alloc]at pb py pd;generalize hW4:(((w.alloc (.cells #[.func (.func f) #[] cap] 45)).alloc (.cells #[.slice none 0 0] 82)).alloc (.cells #[.pointer (some ⟨w.heap.size+1,0,none⟩)] 43)).alloc (.cells #[.bool false] 4)=W4 at*;have s4:W4.heap.size=w.heap.size+4:=by rw[← hW4];simp
 let P:Nat->Prop:=fun k=>k<w.heap.size+4/\k≠w.heap.size+1
 have wr0:Wr P (w.heap.size+1) W4 []:=⟨none,0,pb,World.ownsRow_nil _ _ _ _,fun g hg=>by simp[Value.ownBlock]at hg,fun h=>h.2 rfl,fun k hk=>by have:=hk.1;omega⟩
 have hdo:=Qiw f cap o P (w.heap.size+1) w.heap.size (w.heap.size+1+1) W4 hcf pz py (h W4 hbl P (w.heap.size+1) (fun k hk=>⟨by omega,by omega⟩) wr0);have htr:=Qfa 50 #[.pointer (some ⟨w.heap.size,0,none⟩),.pointer (some ⟨w.heap.size+1+1,0,none⟩)] (((w.alloc (.cells #[.func (.func f) #[] cap] 45)).alloc (.cells #[.slice none 0 0] 82)).alloc (.cells #[.pointer (some ⟨w.heap.size+1,0,none⟩)] 43))
  (fun W=>Turn P W4 W/\∃L,o=some L/\Wr P (w.heap.size+1) W L) (fun W=>Turn P W4 W/\o=none) hcf1 (by
   rw[hW4];refine hdo.mono fun e W' h1=> ?_
   obtain⟨t1,h1⟩:=h1;refine⟨by simpa using pd.turn t1 ⟨by omega,by omega⟩,?_⟩;cases o with
   |some L=>exact .inl ⟨h1.1,t1,L,rfl,h1.2⟩
   |none=>obtain⟨t,v,rfl⟩:=h1;exact .inr ⟨t,v,rfl,t1,rfl⟩)
 have HT:=hidP htr;have Hpy:=hidP py;have Hbl:=hidP hbl;have Hs4:=hidP s4;have Pd:P (w.heap.size+1+1):=⟨by omega,by omega⟩
 have Pw:∀k,k<w.heap.size->P k:=fun k hk=>⟨by omega,by omega⟩
 have Pg:∀g,¬P g/\g≠w.heap.size+1->w.heap.size+4<=g:=fun g hg=>Nat.le_of_not_lt fun q=>hg.1 ⟨q,hg.2⟩
 clear_value P
 clear htr hdo wr0 pz pb pd h hcf hcf1 py hbl s4 hW4;go_enter Tryz.func21,Tryz.ntmps21;go_wp2_with fail;refine HT.out.mono ?_;rintro e W' ⟨W0,ho,hh⟩;rcases hh with⟨rfl,t1,L,rfl,hW⟩|⟨rfl,t1,rfl⟩
 . obtain⟨a,c,p,hv,h3,h4,h5⟩:=hW;simp only[World.size_alloc]at ho;have p' :=p.only ho (by omega);have y' :=(Hpy.out.turn t1 Pd).only ho (by omega);have c0:=p'.row1;have c1:=y'.row1;have hfin:Hid (Below w.heap.size w W'):=Hbl.out.trans ((t1.below Pw).trans (ho.toBelow (by omega) (by have:=t1.size;have:=Hs4.out;omega)));have hown:=hidP (Qat (C:=w.heap.size) (Qbi (Qmh (B:=w.heap.size+4) hv (fun g hg=>Pg g (h3 g hg))) ho (by omega)) (by omega));clear ho p p' y' hv t1 hmf h3 h4 h5;go_wp2;go_ret;exact⟨a,c,rfl,hfin.out,hown.out⟩
 . simp only[World.size_alloc]at ho;have hfin:Hid (Below w.heap.size w W'):=Hbl.out.trans ((t1.below Pw).trans (ho.toBelow (by omega) (by have:=t1.size;have:=Hs4.out;omega)));go_wp2;go_ret;exact⟨none,0,rfl,hfin.out,World.ownsRow_nil _ _ _ _⟩
def txtB (s:ByteArray):List UInt8:=numB s.size++s.data.toList
theorem Qb9 (s:ByteArray):(txtB s).length=(numB s.size).length+s.size:=by unfold txtB;rw[List.length_append,Array.length_toList];rfl
theorem Qbw (s:ByteArray) (hs:s.size<=1048576) (w:World):
 Calls Tryz.prog 58 #[.string s] w fun e w' =>∃a c,e= .returned (.slice a (txtB s).length c)/\Below w.heap.size w w' /\w'.ownsRow w.heap.size 5 1 (.slice a (txtB s).length c) (txtB s).length (flat (txtB s)):=by
 go_enter Tryz.func58,Tryz.ntmps58;go_wp2_with fail;refine(Qa4 (s.size:Int) _).mono ?_;rintro e w1 ⟨a,c,rfl,hb,ho⟩;rw[Qb7 (show s.size<=2147483647 by omega)]at ho;rw[Qb7 (show s.size<=2147483647 by omega)];have hl0:=Qcx (n:=s.size) (by omega);have hcv:=Go.Lib.run_convert_string_bytes (P:=Tryz.prog) w1 9 22 5 s Tryz.underlying9 Tryz.underlying22 Tryz.underlying5;have hbb:=Qhd w1 5 s;have hat:=Ql4 w1 5 s;generalize Go.Lib.bytesWorld w1 5 s=w2 at*;have hlen:s.data.toList.length=s.size:=by rw[Array.length_toList];rfl
 obtain⟨v',w3,hr,hown3,hgrow,_⟩:=Qef w.heap.size (.slice a (numB s.size).length c) (numB s.size) s.data.toList (some ⟨w1.heap.size,0,none⟩) (grownCap w1 s.size 0 5) w2 (by have:=hb.size;have:=hbb.size;omega) (Qas ho hbb) hat (by rw[hlen];omega);obtain⟨a',c',rfl,_⟩:=Qao hown3;rw[hlen]at hr;have HB:=hidP ((via0 hbb hb).grown hgrow (via0 hbb hb).size (fun j e=>Nat.le_of_not_lt fun q=>Qa9 ho q e.symm));have HO:=hidP hown3;clear hown3 hgrow hat hbb hb ho;go_wp2_with (at_builtin;refine Qac rfl _ _ _ rfl _ _ _ rfl rfl hr ?_);go_ret;have e1:(txtB s).length=(numB s.size).length+s.data.toList.length:=by rw[hlen,Qb9]
 rw[e1];exact⟨a',c',rfl,HB.out,HO.out⟩
theorem Qq5 (s:ByteArray):(⟨s.data.toList.toArray⟩:ByteArray)=s:=by cases s;simp
theorem Qo0 {s:ByteArray} (h:s.size<=2147483647) (p r:List UInt8):getT (p++(txtB s++r)) (p.length:Int)=some (s,p.length+(txtB s).length):=by
 have hs:s.data.toList.length=s.size:=by rw[Array.length_toList];rfl
 have e:p++(txtB s++r)=p++(numB s.size++(s.data.toList++r)):=by simp[txtB]
 unfold getT;rw[e,Qj3 h];simp only;have hd:(p++(numB s.size++(s.data.toList++r))).drop (p.length+(numB s.size).length)=s.data.toList++r:=by
  rw[← List.append_assoc,List.drop_left' (by simp)]
 rw[if_pos (by simp only[List.length_append,hs];omega),hd,List.take_left' hs,Qq5,Qb9];simp;omega
theorem Qnb {l:List UInt8} {i:Int} {s:ByteArray} {c:Nat} (h:getT l i=some (s,c)):txtB s=(l.drop i.toNat).take (c - i.toNat)/\s.size<=2147483647:=by
 unfold getT at h;cases hg:getN l i with
 |none=>rw[hg]at h;cases h
 |some x=>
  obtain⟨n,c'⟩:=x;rw[hg]at h;simp only at h;obtain⟨h1,h2,h3,h4,h5⟩:=Qbp hg;split at h
  . simp only[Option.some.injEq,Prod.mk.injEq]at h;obtain⟨rfl,rfl⟩:=h;have hn:((l.drop c').take n).length=n:=(by simp;omega);have hsz:(⟨((l.drop c').take n).toArray⟩:ByteArray).size=n:=(by show((l.drop c').take n).toArray.size=n;simpa using hn);refine⟨?_,by rw[hsz];omega⟩;unfold txtB;rw[hsz,Qjj hg];have e:c' +n - i.toNat=(c' - i.toNat)+n:=(by omega);rw[e,List.take_add,List.drop_drop];congr 2;have:i.toNat+(c' - i.toNat)=c' :=(by omega);rw[this]
  . cases h
theorem Qgg (a:Option Addr) (c:Nat) (L:List UInt8) (W:World) (h:At W a L):(convert 22 9 (.slice a L.length c)).run Tryz.prog W= .ok (.string ⟨L.toArray⟩) W:=by
 rcases h with rfl|⟨b,o,rfl,hb,hi⟩
 . cases a with
   |none=>
    rw[run_convert_bytes_string W _ _ _ none _ c Tryz.underlying22 Tryz.underlying5 Tryz.underlying9];rfl
   |some a=>
    have h:=run_convert_bytes_back (P:=Tryz.prog) W 22 9 5 a c [] Tryz.underlying22 Tryz.underlying5 Tryz.underlying9 (fun j hj=>by simp at hj);exact h
 . exact run_convert_bytes_back (P:=Tryz.prog) W 22 9 5 ⟨b,o,none⟩ c L Tryz.underlying22 Tryz.underlying5 Tryz.underlying9 (fun j hj=>by
    rw[Addr.add_mid];exact hi.getB j hj)
def nS (l:List UInt8) (o:Option Int):Option (Nat × Nat):=o.bind (getN l)
def tS (l:List UInt8) (o:Option Int):Option (ByteArray × Nat):=o.bind (getT l)
def nV (x:Option (Nat × Nat)):Nat:=(x.map Prod.fst).getD 0
def tV (x:Option (ByteArray × Nat)):ByteArray:=(x.map Prod.fst).getD ⟨#[]⟩
def nO {α:Type} (x:Option (α × Nat)):Option Int:=x.map fun p=>(p.2:Int)
theorem Qf2 (l:List UInt8) (o:Option Int):nV (nS l o)<=2147483647:=by
 unfold nV nS;cases o with
 |none=>simp
 |some i=>
  cases h:getN l i with
  |none=>simp[h]
  |some x=>obtain⟨n,c⟩:=x;simp[h];exact(Qbp h).1
structure Cu (W:World) (r:Nat) (A:Option Addr) (cap:Nat) (l:List UInt8) (i:Int) (ok:Bool) (o:Option Int):Prop where
  box:Blk W r 70 (Qjw A l.length cap i ok)
  src:l= []∨∃b o,A=some ⟨b,o,none⟩/\b<W.heap.size/\b≠r/\In W b o l
  i64:I64 i
  st:o=if ok=true then some i else none
theorem Cu.below {W W' :World} {r:Nat} {A:Option Addr} {cap:Nat} {l:List UInt8} {i:Int} {ok:Bool} {o:Option Int} (h:Cu W r A cap l i ok o) (g:Below W.heap.size W W'):Cu W' r A cap l i ok o:=
 ⟨h.box.below g h.box.lt,h.src.imp id fun⟨b,o,e,hb,hn,hi⟩=>⟨b,o,e,Nat.lt_of_lt_of_le hb g.size,hn,hi.below hb g⟩,h.i64,h.st⟩
theorem Cu.at {W:World} {r:Nat} {A:Option Addr} {cap:Nat} {l:List UInt8} {i:Int} {ok:Bool} {o:Option Int} (h:Cu W r A cap l i ok o):At W A l:=h.src.imp id fun⟨b,o,e,hb,_,hi⟩=>⟨b,o,e,hb,hi⟩
theorem Cu.src_set {W:World} {r:Nat} {A:Option Addr} {cap:Nat} {l:List UInt8} {i:Int} {ok:Bool} {o:Option Int} (h:Cu W r A cap l i ok o) (k:Nat) (v:Value):l= []∨∃b o,A=some ⟨b,o,none⟩/\b<(W.setCell ⟨r,k,none⟩ v).heap.size/\b≠r/\In (W.setCell ⟨r,k,none⟩ v) b o l:=
 h.src.imp id fun⟨b,o,e,hb,hn,hi⟩=>⟨b,o,e,by simpa using hb,hn,hi.set _ _ (fun e=>hn e.symm)⟩
theorem Cu.goto {W:World} {r:Nat} {A:Option Addr} {cap:Nat} {l:List UInt8} {i:Int} {o:Option Int} (h:Cu W r A cap l i true o) (j:Nat) (hj:I64 (j:Int)):Cu (W.setCell ⟨r,1,none⟩ (.int .i64 (j:Int))) r A cap l (j:Int) true (some (j:Int)):=
 ⟨h.box.setAt 1 _,h.src_set 1 _,hj,rfl⟩
theorem Cu.stop {W:World} {r:Nat} {A:Option Addr} {cap:Nat} {l:List UInt8} {i:Int} {ok:Bool} {o:Option Int} (h:Cu W r A cap l i ok o):Cu (W.setCell ⟨r,2,none⟩ (.bool false)) r A cap l i false none:=
 ⟨h.box.setAt 2 _,h.src_set 2 _,h.i64,rfl⟩
theorem Cu.drewN {W:World} {r:Nat} {A:Option Addr} {cap:Nat} {l:List UInt8} {i:Int} {ok:Bool} {o:Option Int} (h:Cu W r A cap l i ok o) (n:Nat):Cu (W.drewN n) r A cap l i ok o:=h.below (below_drewN (Below.refl _ _) n)
def CuO (W:World) (r:Nat) (A:Option Addr) (cap:Nat) (l:List UInt8) (o:Option Int):Prop:=∃i ok,Cu W r A cap l i ok o
theorem Qce (r:Nat) (A:Option Addr) (cap:Nat) (l:List UInt8) (hl:l.length<=1048576) (o:Option Int) (w:World) (h:CuO w r A cap l o):
 Calls Tryz.prog 68 #[.pointer (some ⟨r,0,none⟩)] w fun e w' =>e= .returned (.int .i64 (nV (nS l o):Int))/\Only r w w' /\CuO w' r A cap l (nO (nS l o)):=by
 obtain⟨i,ok,hc⟩:=h;obtain⟨c0,c1,c2⟩:=hc.box.row3;have f1:=hc.box.thaw 1;have f2:=hc.box.thaw 2;have q0:=hc.box.lt;have hst:=hc.st;have HC:=hidP hc;have HG:=hidP (fun W (hA:At W A l)=>Qdx A cap l hl i hc.i64 W hA);have HAt:=hidP hc.at;clear hc;cases hg:getN l i with
 |none=>
  have hn:Hid (nS l o=none):=by show _=_;rw[hst];unfold nS;split<;>simp[hg]
  rw[hg]at HG;simp only[numT]at HG;clear hst;go_enter Tryz.func68,Tryz.ntmps68;go_wp2_with fail
  go_quiet (first|(go_at_call 42;refine Calls.quiet_of_same (HG.out _ (HAt.out.below (below_drewN (Below.refl _ _) _)))))
  go_wp2;go_ret;rw[hn.out];exact⟨rfl,(Qb1 (Only.refl _ _) _).set _ _,i,false,(HC.out.drewN _).stop⟩
 |some x=>
  obtain⟨n,c⟩:=x;rw[hg]at HG;simp only[numT]at HG;have hle:=Qbp hg;cases ok with
  |false=>
   have hn:Hid (nS l o=none):=(by show _=_;rw[hst];rfl);clear hst;go_enter Tryz.func68,Tryz.ntmps68;go_wp2_with fail
   go_quiet (first|(go_at_call 42;refine Calls.quiet_of_same (HG.out _ (HAt.out.below (below_drewN (Below.refl _ _) _)))))
   go_wp2;go_ret;rw[hn.out];exact⟨rfl,(Qb1 (Only.refl _ _) _).set _ _,i,false,(HC.out.drewN _).stop⟩
  |true=>
   have hn:Hid (nS l o=some (n,c)):=(by show _=_;rw[hst];unfold nS;simp[hg]);have hc64:Hid (I64 (c:Int)):=hidP ⟨by omega,by omega⟩;clear hst hle;go_enter Tryz.func68,Tryz.ntmps68;go_wp2_with fail
   go_quiet (first|(go_at_call 42;refine Calls.quiet_of_same (HG.out _ (HAt.out.below (below_drewN (Below.refl _ _) _)))))
   go_wp2;go_ret;rw[hn.out];exact⟨rfl,(Qb1 (Only.refl _ _) _).set _ _,(c:Int),true,(HC.out.drewN _).goto c hc64.out⟩
theorem Qfs (r:Nat) (A:Option Addr) (cap:Nat) (l:List UInt8) (hl:l.length<=1048576) (hcap:l.length<=cap) (hcm:cap<=9223372036854775807) (o:Option Int) (w:World) (h:CuO w r A cap l o):
 Calls Tryz.prog 70 #[.pointer (some ⟨r,0,none⟩)] w fun e w' =>e= .returned (.string (tV (tS l o)))/\Only r w w' /\CuO w' r A cap l (nO (tS l o)):=by
 obtain⟨i,ok,hc⟩:=h;obtain⟨c0,c1,c2⟩:=hc.box.row3;have f1:=hc.box.thaw 1;have f2:=hc.box.thaw 2;have q0:=hc.box.lt;have hst:=hc.st;have HC:=hidP hc;have HG:=hidP (fun W (hA:At W A l)=>Qgr A cap l hl hcap hcm i hc.i64 W hA);have HAt:=hidP hc.at;clear hc;cases hg:getT l i with
 |none=>
  have hn:Hid (tS l o=none):=by show _=_;rw[hst];unfold tS;split<;>simp[hg]
  rw[hg]at HG;simp only[txtT]at HG;clear hst;go_enter Tryz.func70,Tryz.ntmps70;go_wp2_with fail
  go_quiet (first|(go_at_call 92;refine Calls.quiet_of_same (HG.out _ (HAt.out.below (below_drewN (Below.refl _ _) _)))))
  go_wp2;go_ret;rw[hn.out];exact⟨rfl,(Qb1 (Only.refl _ _) _).set _ _,i,false,(HC.out.drewN _).stop⟩
 |some x=>
  obtain⟨n,c⟩:=x;rw[hg]at HG;simp only[txtT]at HG;have hle:=Qds hg;cases ok with
  |false=>
   have hn:Hid (tS l o=none):=(by show _=_;rw[hst];rfl);clear hst;go_enter Tryz.func70,Tryz.ntmps70;go_wp2_with fail
   go_quiet (first|(go_at_call 92;refine Calls.quiet_of_same (HG.out _ (HAt.out.below (below_drewN (Below.refl _ _) _)))))
   go_wp2;go_ret;rw[hn.out];exact⟨rfl,(Qb1 (Only.refl _ _) _).set _ _,i,false,(HC.out.drewN _).stop⟩
  |true=>
   have hn:Hid (tS l o=some (n,c)):=(by show _=_;rw[hst];unfold tS;simp[hg]);have hc64:Hid (I64 (c:Int)):=hidP ⟨by omega,by omega⟩;clear hst hle;go_enter Tryz.func70,Tryz.ntmps70;go_wp2_with fail
   go_quiet (first|(go_at_call 92;refine Calls.quiet_of_same (HG.out _ (HAt.out.below (below_drewN (Below.refl _ _) _)))))
   go_wp2;go_ret;rw[hn.out];exact⟨rfl,(Qb1 (Only.refl _ _) _).set _ _,(c:Int),true,(HC.out.drewN _).goto c hc64.out⟩
def Qbf {α:Type} (get:Int->Option (α × Nat)):Nat->Nat->Option (List α × Nat)
  |0,c=>some ([],c)
  |n+1,c=>match get (c:Int)with
    |none=>none
    |some (x,d)=>match Qbf get n d with
      |none=>none
      |some (xs,e)=>some (x::xs,e)
def Qf6 {α:Type} (xs:List α) (o:Option (List α × Nat)):Option (List α × Nat):=o.map fun p=>(xs++p.1,p.2)
theorem Qjq {α:Type} {get:Int->Option (α × Nat)} {n c:Nat} (xs:List α) (h:get (c:Int)=none):Qf6 xs (Qbf get (n+1) c)=none:=by simp[Qbf,h,Qf6]
theorem Qjp {α:Type} {get:Int->Option (α × Nat)} {n c d:Nat} {x:α} (xs:List α) (h:get (c:Int)=some (x,d)):Qf6 xs (Qbf get (n+1) c)=Qf6 (xs++ [x]) (Qbf get n d):=by
 simp only[Qbf,h,Qf6];cases Qbf get n d with
 |none=>rfl
 |some p=>simp
theorem Qlp {α:Type} (get:Int->Option (α × Nat)) (c:Nat) (xs:List α):Qf6 xs (Qbf get 0 c)=some (xs,c):=by simp[Qbf,Qf6]
def isList {α:Type} [Cel α] (t:TypeId) (B:Nat) (xs:List α) (v:Value) (W:World):Prop:=∃a c,v= .slice a xs.length c/\W.ownsRow B t (Cel.k α) (.slice a xs.length c) xs.length (flat xs)
theorem Rd.offp {S:Nat->Prop} {W W' :World} {r:Nat} {A:Option Addr} {cap:Nat} {l:List UInt8} {i:Int} (h:Rd W r A cap l i) (k:Offp S W W') (hr:¬S r) (hA:l= []∨∀c o,A=some ⟨c,o,none⟩->¬S c):Rd W' r A cap l i:=by
 refine⟨h.box.offp k hr,?_,h.i64⟩;rcases hA with e|hA
 . exact .inl e
 . exact h.src.imp id fun⟨c,o,e,hb,hn,hi⟩=>⟨c,o,e,Nat.lt_of_lt_of_le hb k.size,hn,hi.offp k hb (hA c o e)⟩
theorem Rd.far' {W:World} {r:Nat} {A:Option Addr} {cap:Nat} {l:List UInt8} {i:Int} (h:Rd W r A cap l i):r<W.heap.size/\(l= []∨∀c o,A=some ⟨c,o,none⟩->c<W.heap.size):=by
 refine⟨h.box.lt,h.src.imp id fun⟨b,o,e,hb,_⟩ c o' e' => ?_⟩;rw[e]at e';cases e';exact hb
theorem Qbr {B b:Nat} {W W' :World} {v:Value} {t:TypeId} {k n:Nat} {xs:List Value} (h:W.ownsRow B t k v n xs) (g:Only b W W') (hb:b<B):W'.ownsRow B t k v n xs:=by
 refine⟨h.1,?_⟩;rcases h.2 with hz|⟨c,c',cur,e,hB,hblk,hr⟩
 . exact .inl hz
 . subst e;exact .inr ⟨c,c',cur,rfl,hB,(g.block c (Blk.lt (show Blk W c t cur from hblk)) (by omega)).trans hblk,hr⟩
theorem Qcd {b:Nat} {S:Nat->Prop} {w W W' :World} (h:Only b w W) (k:Offp S W W') (hS:∀x,S x->w.heap.size<=x):Only b w W' :=
 ⟨k.os.trans h.os,k.tape.trans h.tape,k.output.trans h.output,Nat.le_trans h.size k.size,fun i hi hb=>(k.block i (Nat.lt_of_lt_of_le hi h.size) (fun e=>by have:=hS i e;omega)).trans (h.block i hi hb)⟩
structure RL {α:Type} [Cel α] (t:TypeId) (w W:World) (r:Nat) (A:Option Addr) (cap:Nat) (l:List UInt8) (c:Nat) (v:Value) (xs:List α):Prop where
  rd:Rd W r A cap l (c:Int)
  only:Only r w W
  own:W.ownsRow w.heap.size t (Cel.k α) v xs.length (flat xs)
  lr:r<w.heap.size
  la:l= []∨∀c o,A=some ⟨c,o,none⟩->c<w.heap.size
theorem RL.app {α:Type} [Cel α] {P:Program} {ts t:TypeId} {z:Value} {bytes:Nat} (hu:P.underlying ts=some (.slice t)) (hinfo:(P.info? t).map (fun i=>(i.zero,i.size,i.bytes))=some (some z,Cel.k α,bytes)) (hz:z.cells.size=Cel.k α) (hk:0<Cel.k α) (hby:bytes<=1000)
 {w W W1:World} {r:Nat} {A:Option Addr} {cap:Nat} {l:List UInt8} {c d:Nat} {a:Option Addr} {cp:Nat} {xs:List α} (h:RL t w W r A cap l c (.slice a xs.length cp) xs) (o:Only r W W1) (h1:Rd W1 r A cap l (d:Int)) (x:α) (cs:Array Value) (hcs:cs.toList=Cel.cs x) (hx:xs.length<=2000000):
 ∃a2 c2 W2,(Builtin.append_ #[ts,ts] ts (l1SS a xs.length cp (some ⟨W1.heap.size,0,none⟩) 1 1)).run P (W1.alloc (.cells cs t))= .ok (.slice a2 (xs.length+1) c2) W2/\RL t w W2 r A cap l d (.slice a2 (xs.length+1) c2) (xs++ [x]):=by
 have hlr:=h.lr;have hw1:w.heap.size<=W1.heap.size:=Nat.le_trans h.only.size o.size;have own1:=Qau (Qbr h.own o hlr) (.cells cs t);have hX:At (W1.alloc (.cells cs t)) (some ⟨W1.heap.size,0,none⟩) [x]:=by
  refine .inr ⟨_,0,rfl,by simp,fun j u hu=> ?_⟩;rw[Qdg,← hcs]at hu;rw[Nat.zero_add];exact(Blk.new W1 t cs).cell (by simpa using hu)
 obtain⟨v',W2,hr,hown,hgrow,_⟩:=Qbj (P:=P) hu hinfo hz hk hby w.heap.size (.slice a xs.length cp) xs [x] (some ⟨W1.heap.size,0,none⟩) 1 _ (by simp;omega) own1 hX (by simp;omega);simp only[List.length_cons,List.length_nil,Nat.zero_add]at hown hr;obtain⟨a2,c2,rfl,_⟩:=Qao hown;have ko:=Qb8 hgrow;have hS:∀y,(Value.slice a xs.length cp).ownBlock=some y->w.heap.size<=y:=fun y hy=>(own1.lt y hy).1
 refine⟨a2,c2,W2,hr,⟨?_,?_,Qhy (by simp) hown,h.lr,h.la⟩⟩
 . exact(h1.below (Qad (Below.refl _ _) _)).offp ko (fun e=>by have:=hS _ e;omega) (h.la.imp id fun f c o e e' =>by have:=f c o e;have:=hS _ e';omega)
 . exact Qcd ((Qap h.only o).below (Qad (Below.refl _ _) _)) ko hS
def Qb0 {α:Type} (l:List UInt8) (get:Int->Option (α × Nat)) (i:Int):Option (List α × Nat):=match getN l i with|none=>none|some (n,c)=>Qbf get n c
theorem Qh2 {α:Type} {l:List UInt8} {get:Int->Option (α × Nat)} (hget:∀(i:Nat) x c,get (i:Int)=some (x,c)->i<c/\c<=l.length):∀(n c:Nat) {xs:List α} {d:Nat},c<=l.length->Qbf get n c=some (xs,d)->xs.length=n/\c+n<=d/\d<=l.length
 |0,c,xs,d,hc,h=>by
  simp only[Qbf,Option.some.injEq,Prod.mk.injEq]at h;obtain⟨rfl,rfl⟩:=h;exact⟨rfl,Nat.le_refl _,hc⟩
 |n+1,c,xs,d,hc,h=>by
  simp only[Qbf]at h;cases hx:get (c:Int)with
  |none=>simp[hx]at h
  |some p=>
  obtain⟨x,e⟩:=p;have h1:=hget c x e hx;simp only[hx]at h;cases hy:Qbf get n e with
  |none=>simp[hy]at h
  |some q=>
  obtain⟨ys,f⟩:=q;have h2:=Qh2 hget n e h1.2 hy;simp only[hy,Option.some.injEq,Prod.mk.injEq]at h;obtain⟨rfl,rfl⟩:=h;simp only[List.length_cons];omega
theorem Qh3 {α:Type} {l:List UInt8} {get:Int->Option (α × Nat)} (hget:∀(i:Nat) x c,get (i:Int)=some (x,c)->i<c/\c<=l.length) {i:Int} {xs:List α} {d:Nat} (h:Qb0 l get i=some (xs,d)):i<(d:Int)/\d<=l.length/\xs.length<=l.length:=by
 unfold Qb0 at h;cases hx:getN l i with
 |none=>simp[hx]at h
 |some p=>
 obtain⟨n,c⟩:=p;have h1:=Qbp hx;simp only[hx]at h;have h2:=Qh2 hget n c h1.2.2.2.1 h;omega
theorem isList.mono {α:Type} [Cel α] {t:TypeId} {B B' :Nat} {xs:List α} {v:Value} {W:World} (h:isList t B xs v W) (hB:B' <=B):isList t B' xs v W:=by
 obtain⟨a,c,rfl,ho⟩:=h;refine⟨a,c,rfl,ho.1,?_⟩;rcases ho.2 with hz|⟨b,c',cur,e,hb,hblk,hr⟩
 . exact .inl hz
 . exact .inr ⟨b,c',cur,e,Nat.le_trans hB hb,hblk,hr⟩
end Go.Proofs.YtajbldnhjpjghaaGreat.Gen
namespace Go.Proofs.YtajbldnhjpjghaaGreat.Gen.Bk
open ChangeShapes WideShapes ChangeAt RowKit Joins Deep Base Gen
theorem Qkw {l p r:List UInt8} {n:Int} (h:l=p++(numI n++r)) (h0:0<=n) (h1:n<=2147483647):nS l (some (p.length:Int))=some (n.toNat,(p++numI n).length):=by
 obtain⟨m,rfl⟩:∃m:Nat,n=(m:Int):=⟨n.toNat,by omega⟩
 rw[Qb7 (by omega)]at h ⊢;subst h;show getN (p++(numB m++r)) (p.length:Int)=_;rw[Qj3 (by omega),List.length_append];simp
theorem Qrq {l p r:List UInt8} {s:ByteArray} (h:l=p++(txtB s++r)) (h1:s.size<=2147483647):tS l (some (p.length:Int))=some (s,(p++txtB s).length):=by
 subst h;show getT _ _=_;rw[Qo0 h1,List.length_append]
theorem Qe3 {α:Type} (x:α) (n:Nat):nO (some (x,n))=some (n:Int):=rfl
theorem Qr3 (x n:Nat):nV (some (x,n))=x:=rfl
theorem Qrp (x:ByteArray) (n:Nat):tV (some (x,n))=x:=rfl
theorem Qg0 {l:List UInt8} {o:Option Int} {n c:Nat} (h:nS l o=some (n,c)):∃j:Nat,o=some (j:Int)/\n<=2147483647/\j<c/\c<=l.length/\numI (n:Int)=(l.drop j).take (c - j):=by
 cases o with
 |none=>cases h
 |some i=>
  have hg:getN l i=some (n,c):=h;obtain⟨h1,h2,h3,h4,h5⟩:=Qbp hg;refine⟨i.toNat,by rw[Int.toNat_of_nonneg h2],h1,by omega,h4,?_⟩;rw[Qb7 h1];exact Qjj hg
theorem Qnk {l:List UInt8} {o:Option Int} {s:ByteArray} {c:Nat} (h:tS l o=some (s,c)):∃j:Nat,o=some (j:Int)/\j<=c/\c<=l.length/\txtB s=(l.drop j).take (c - j):=by
 cases o with
 |none=>cases h
 |some i=>
  have hg:getT l i=some (s,c):=h;obtain⟨h1,h2,h3,h4⟩:=Qds hg;exact⟨i.toNat,by rw[Int.toNat_of_nonneg (by omega)],by omega,by omega,(Qnb hg).1⟩
theorem Qg1 {α:Type} {x:Option (α × Nat)} {j:Nat} (h:nO x=some (j:Int)):∃v,x=some (v,j):=by
 cases x with
 |none=>cases h
 |some p=>
  obtain⟨v,n⟩:=p;simp only[nO,Option.map_some,Option.some.injEq]at h;exact⟨v,by rw[show n=j by omega]⟩
theorem Qbl (l:List UInt8) {a b c:Nat} (h1:a<=b) (h2:b<=c):(l.drop a).take (b - a)++(l.drop b).take (c - b)=(l.drop a).take (c - a):=by
 have e:c - a=(b - a)+(c - b):=by omega
 rw[e,List.take_add,List.drop_drop];congr 3;omega
theorem getN_at {l p r:List UInt8} {n:Int} (h:l=p++(numI n++r)) (h0:0<=n) (h1:n<=2147483647):getN l (p.length:Int)=some (n.toNat,(p++numI n).length):=Qkw h h0 h1
theorem Qsf {l p r:List UInt8} {s:ByteArray} (h:l=p++(txtB s++r)) (h1:s.size<=2147483647):getT l (p.length:Int)=some (s,(p++txtB s).length):=Qrq h h1
theorem Qoe {α:Type} {l:List UInt8} {get:Int->Option (α × Nat)} {f:α->List UInt8}:∀(L:List α) (p r:List UInt8),(∀x∈L,∀p r,l=p++(f x++r)->get (p.length:Int)=some (x,(p++f x).length))->l=p++(L.flatMap f++r)->Qbf get L.length p.length=some (L,(p++L.flatMap f).length)
 | [],p,r,hx,h=>by simp[Qbf]
 |x::L,p,r,hx,h=>by
  have h1:=hx x (List.mem_cons_self ..) p (L.flatMap f++r) (by rw[h];simp);have h2:=Qoe L (p++f x) r (fun y hy=>hx y (List.mem_cons_of_mem _ hy)) (by rw[h];simp);show Qbf get (L.length+1) p.length=_;unfold Qbf;rw[h1];simp only[];rw[h2];simp
theorem Qr7 {α:Type} {l:List UInt8} {get:Int->Option (α × Nat)} {f:α->List UInt8} (L:List α) (p r:List UInt8) (hL:L.length<=2147483647) (hx:∀x∈L,∀p r,l=p++(f x++r)->get (p.length:Int)=some (x,(p++f x).length)) (h:l=p++(numI (L.length:Int)++(L.flatMap f++r))):Qb0 l get (p.length:Int)=some (L,(p++(numI (L.length:Int)++L.flatMap f)).length):=by
 have h1:=getN_at (n:=(L.length:Int)) (r:=L.flatMap f++r) h (by omega) (by omega);have h2:=Qoe L (p++numI (L.length:Int)) r hx (by rw[h];simp);unfold Qb0;rw[h1];simp only[Int.toNat_natCast];rw[h2];simp
theorem Qlo {α:Type} {l:List UInt8} {get:Int->Option (α × Nat)} {f:α->List UInt8} (hg:∀(i:Nat) x c,get (i:Int)=some (x,c)->i<=c/\c<=l.length/\f x=(l.drop i).take (c - i)):∀(n c:Nat) {xs:List α} {d:Nat},c<=l.length->Qbf get n c=some (xs,d)->c<=d/\d<=l.length/\xs.length=n/\xs.flatMap f=(l.drop c).take (d - c)
 |0,c,xs,d,hc,h=>by
  simp only[Qbf,Option.some.injEq,Prod.mk.injEq]at h;obtain⟨rfl,rfl⟩:=h;simp[hc]
 |n+1,c,xs,d,hc,h=>by
  unfold Qbf at h;cases hx:get (c:Int)with
  |none=>rw[hx]at h;cases h
  |some p=>
  obtain⟨x,e⟩:=p;rw[hx]at h;simp only[]at h;cases hy:Qbf get n e with
  |none=>rw[hy]at h;cases h
  |some q=>
  obtain⟨ys,g⟩:=q;rw[hy]at h;simp only[Option.some.injEq,Prod.mk.injEq]at h;obtain⟨rfl,rfl⟩:=h;have h1:=hg _ _ _ hx;have h2:=Qlo hg n e h1.2.1 hy;refine⟨by omega,h2.2.1,by simp[h2.2.2.1],?_⟩;rw[List.flatMap_cons,h1.2.2,h2.2.2.2];exact Qbl l h1.1 h2.1
theorem Qed {l:List UInt8} {i n c:Nat} (h:getN l (i:Int)=some (n,c)):n<=2147483647/\i<=c/\c<=l.length/\numI (n:Int)=(l.drop i).take (c - i):=by
 obtain⟨j,h1,h2,h3,h4,h5⟩:=Qg0 (show nS l (some (i:Int))=_ from h);simp only[Option.some.injEq]at h1;obtain rfl:i=j:=by omega
 exact⟨h2,by omega,h4,h5⟩
theorem Qqq {l:List UInt8} {i c:Nat} {s:ByteArray} (h:getT l (i:Int)=some (s,c)):i<=c/\c<=l.length/\txtB s=(l.drop i).take (c - i):=by
 obtain⟨j,h1,h2,h3,h4⟩:=Qnk (show tS l (some (i:Int))=_ from h);simp only[Option.some.injEq]at h1;obtain rfl:i=j:=by omega
 exact⟨h2,h3,h4⟩
end Go.Proofs.YtajbldnhjpjghaaGreat.Gen.Bk
namespace Go.Proofs.YtajbldnhjpjghaaGreat.Items
open ChangeShapes WideShapes ChangeAt RowKit Base
structure It where
  off:Int
  key:ByteArray
  text:ByteArray
  who:Int
  time:Int
def It.cs (x:It):List Value:= [.int .i64 x.off,.string x.key,.string x.text,.int .i64 x.who,.int .i64 x.time]
def flat (l:List It):List Value:=l.flatMap It.cs
theorem It.cs_length (x:It):x.cs.length=5:=rfl
theorem Qcp (l:List It):(flat l).length=l.length*5:=by
 induction l with
 |nil=>rfl
 |cons a l ih=>simp only[flat,List.flatMap_cons,List.length_append,List.length_cons]at ih ⊢;rw[ih,It.cs_length];omega
theorem Qdd (l m:List It):flat (l++m)=flat l++flat m:=by simp[flat]
theorem Qdg (x:It):flat [x]=x.cs:=by simp[flat]
theorem Qcv (x:It) (l:List It):flat (x::l)=x.cs++flat l:=by simp[flat]
theorem Qev (l:List It):∀(i:Nat) (h:i<l.length) (f:Nat),f<5->(flat l)[i*5+f]? =(l[i].cs)[f]? :=by
 induction l with
 |nil=>intro i h;simp at h
 |cons a l ih=>
  intro i h f hf;rw[Qcv];cases i with
  |zero=>rw[List.getElem?_append_left (by rw[It.cs_length];omega)];simp
  |succ i=>
   rw[List.getElem?_append_right (by rw[It.cs_length];omega),It.cs_length];have e:(i+1) *5+f - 5=i*5+f:=(by omega);rw[e,ih i (by simpa using h) f hf];simp
def In (w:World) (b o:Nat) (l:List It):Prop:=w.rangeAt b o (flat l)
theorem In.get {w:World} {b o:Nat} {l:List It} (h:In w b o l) (i:Nat) (hi:i<l.length):
 w.cell? ⟨b,o+i*5,none⟩=some (.int .i64 l[i].off)/\w.cell? ⟨b,o+i*5+1,none⟩=some (.string l[i].key)/\w.cell? ⟨b,o+i*5+2,none⟩=some (.string l[i].text)/\
 w.cell? ⟨b,o+i*5+3,none⟩=some (.int .i64 l[i].who)/\w.cell? ⟨b,o+i*5+4,none⟩=some (.int .i64 l[i].time):=by
 have g:∀f v,f<5->(l[i].cs)[f]? =some v->w.cell? ⟨b,o+(i*5+f),none⟩=some v:=fun f v hf hv=>h (i*5+f) v (by rw[Qev l i hi f hf];exact hv)
 exact⟨g 0 _ (by omega) rfl,g 1 _ (by omega) rfl,g 2 _ (by omega) rfl,g 3 _ (by omega) rfl,g 4 _ (by omega) rfl⟩
theorem In.below {w w' :World} {b o:Nat} {l:List It} (h:In w b o l) (hb:b<w.heap.size) (hw:Below w.heap.size w w'):In w' b o l:=
 fun j v hv=>(hw.cell (p:=⟨b,o+j,none⟩) hb).trans (h j v hv)
theorem via0 {a b c:World} (k:Below b.heap.size b c) (h:Below a.heap.size a b):Below a.heap.size a c:=h.trans (k.mono h.size)
theorem Qad {a b:World} (h:Below a.heap.size a b) (o:Obj):Below a.heap.size a (b.alloc o):=h.alloc h.size o
def It.zero:It:=⟨0,⟨#[]⟩,⟨#[]⟩,0,0⟩
def It.v (x:It):Value:= .agg (Qbs x.off x.key x.text x.who x.time)
end Go.Proofs.YtajbldnhjpjghaaGreat.Items
