/-
  Lists in blocks of their own, and what stays when some blocks alone turn: no condition.
-/
import Derived.Test.YtajbldnhjpjghaaGreatBase
import Derived.WalkSpells
import Derived.Lib.ItoaNum
set_option linter.unusedVariables false
set_option linter.unusedSimpArgs false
set_option maxRecDepth 100000
set_option maxHeartbeats 8000000
set_option maxRecDepth 100000
set_option maxHeartbeats 8000000
namespace Go.Proofs.YtajbldnhjpjghaaGreat.Gen
open ChangeShapes WideShapes ChangeAt RowKit Base
structure Off (F:List Nat) (w w' :World):Prop where
  os:w'.os=w.os
  tape:w'.tape=w.tape
  output:w'.output=w.output
  size:w.heap.size<=w'.heap.size
  block:∀k,k<w.heap.size->k∉F->w'.heap[k]? =w.heap[k]?
theorem Off.refl (F:List Nat) (w:World):Off F w w:=⟨rfl,rfl,rfl,Nat.le_refl _,fun _ _ _=>rfl⟩
theorem Off.of_below {w w1:World} (h:Below w.heap.size w w1):Off [] w w1:=⟨h.os,h.tape,h.output,h.size,fun i hi _=>h.block i hi⟩
theorem Off.of_only {b:Nat} {w w1:World} (h:Only b w w1):Off [b] w w1:=⟨h.os,h.tape,h.output,h.size,fun i hi hb=>h.block i hi (fun e=>hb (by simp[e]))⟩
theorem Off.toBelow {F:List Nat} {B:Nat} {w w1:World} (h:Off F w w1) (hF:∀x∈F,B<=x) (hw:B<=w.heap.size):Below B w w1:=
 ⟨h.os,h.tape,h.output,h.size,fun i hi=>h.block i (by omega) (fun e=>by have:=hF i e;omega)⟩
theorem Off.cell {F:List Nat} {w w1:World} (h:Off F w w1) {p:Addr} (hp:p.block<w.heap.size) (hb:p.block∉F):w1.cell? p=w.cell? p:=World.cell?_of_block (h.block p.block hp hb)
theorem Off.frozen {F:List Nat} {w w1:World} (h:Off F w w1) {p:Addr} (hp:p.block<w.heap.size) (hb:p.block∉F):w1.frozen? p=w.frozen? p:=by
 unfold World.frozen?;rw[h.block p.block hp hb]
theorem Blk.off {F:List Nat} {W W' :World} {B:Nat} {t:TypeId} {vs:Array Value} (h:Blk W B t vs) (k:Off F W W') (hne:B∉F):Blk W' B t vs:=(k.block B h.lt hne).trans h
section
variable {α:Type} [Cel α]
theorem In.off {F:List Nat} {c o:Nat} {w w1:World} {l:List α} (h:In w c o l) (k:Off F w w1) (hc:c<w.heap.size) (hb:c∉F):In w1 c o l:=
 fun j v hv=>(k.cell (p:=⟨c,o+j,none⟩) hc hb).trans (h j v hv)
theorem Qnh {F:List Nat} {c o n:Nat} {w w1:World} (h:w.there c o n) (k:Off F w w1) (hc:c<w.heap.size) (hb:c∉F):w1.there c o n:=fun j hj=>by
 rw[k.cell (p:=⟨c,o+j,none⟩) hc hb,k.frozen (p:=⟨c,o+j,none⟩) hc hb];exact h j hj
def Sl (w:World) (a:Option Addr) (l:List α) (F:List Nat):Prop:=
  (l= []/\F= [])∨∃b o,a=some ⟨b,o,none⟩/\F= [b]/\b<w.heap.size/\In w b o l/\w.there b o (l.length*Cel.k α)
theorem Sl.off {F G:List Nat} {w w1:World} {a:Option Addr} {l:List α} (h:Sl w a l F) (k:Off G w w1) (hd:∀x∈F,x∉G):Sl w1 a l F:=by
 rcases h with h|⟨b,o,rfl,rfl,hb,hi,ht⟩
 . exact .inl h
 . have:=hd b (by simp);exact .inr ⟨b,o,rfl,rfl,Nat.lt_of_lt_of_le hb k.size,hi.off k hb this,Qnh ht k hb this⟩
theorem Sl.below {F:List Nat} {w w1:World} {a:Option Addr} {l:List α} (h:Sl w a l F) (k:Below w.heap.size w w1):Sl w1 a l F:=h.off (Off.of_below k) (by simp)
theorem Sl.at {F:List Nat} {w:World} {a:Option Addr} {l:List α} (h:Sl w a l F):At w a l:=
 h.imp (fun e=>e.1) fun⟨b,o,e,_,hb,hi,_⟩=>⟨b,o,e,hb,hi⟩
theorem Sl.lt {F:List Nat} {w:World} {a:Option Addr} {l:List α} (h:Sl w a l F):∀x∈F,x<w.heap.size:=by
 rcases h with⟨_,rfl⟩|⟨b,o,_,rfl,hb,_⟩
 . simp
 . simpa using hb
theorem Sl.nil (w:World) (a:Option Addr):Sl w a ([]:List α) []:= .inl ⟨rfl,rfl⟩
theorem Sl.nodup {F:List Nat} {w:World} {a:Option Addr} {l:List α} (h:Sl w a l F):F.Nodup:=by
 rcases h with⟨_,rfl⟩|⟨b,o,_,rfl,_⟩<;>simp
theorem Sl.of_fresh {B:Nat} {w:World} {a:Option Addr} {n c:Nat} {l:List α} (h:Fresh B w (.slice a n c) l):n=l.length/\∃F,Sl w a l F/\∀x∈F,B<=x:=by
 obtain⟨A,c',e,_,h⟩:=h;cases e;refine⟨rfl,?_⟩;rcases h with h|⟨b,o,e,hB,hb,hi,ht⟩
 . exact⟨[],.inl ⟨h,rfl⟩,by simp⟩
 . exact⟨[b],.inr ⟨b,o,e,rfl,hb,hi,ht⟩,by simpa using hB⟩
end
structure Offp (S:Nat->Prop) (w w' :World):Prop where
  os:w'.os=w.os
  tape:w'.tape=w.tape
  output:w'.output=w.output
  size:w.heap.size<=w'.heap.size
  block:∀k,k<w.heap.size->¬S k->w'.heap[k]? =w.heap[k]?
theorem Offp.refl (S:Nat->Prop) (w:World):Offp S w w:=⟨rfl,rfl,rfl,Nat.le_refl _,fun _ _ _=>rfl⟩
theorem Offp.trans {S:Nat->Prop} {w w1 w2:World} (h:Offp S w w1) (k:Offp S w1 w2):Offp S w w2:=
 ⟨k.os.trans h.os,k.tape.trans h.tape,k.output.trans h.output,Nat.le_trans h.size k.size,fun i hi hb=>(k.block i (Nat.lt_of_lt_of_le hi h.size) hb).trans (h.block i hi hb)⟩
theorem Offp.mono {S T:Nat->Prop} {w w1:World} (h:Offp S w w1) (s:∀x,S x->T x):Offp T w w1:=⟨h.os,h.tape,h.output,h.size,fun i hi hb=>h.block i hi (fun e=>hb (s i e))⟩
theorem Offp.of_below {S:Nat->Prop} {w w1:World} (h:Below w.heap.size w w1):Offp S w w1:=⟨h.os,h.tape,h.output,h.size,fun i hi _=>h.block i hi⟩
theorem Offp.of_only {b:Nat} {w w1:World} (h:Only b w w1):Offp (fun x=>x=b) w w1:=⟨h.os,h.tape,h.output,h.size,fun i hi hb=>h.block i hi hb⟩
theorem Offp.below {S:Nat->Prop} {w w1 w2:World} (h:Offp S w w1) (k:Below w1.heap.size w1 w2):Offp S w w2:=h.trans (Offp.of_below k)
theorem Offp.set {S:Nat->Prop} {w w1:World} (h:Offp S w w1) {b:Nat} (hb:S b) (o:Nat) (v:Value):Offp S w (w1.setCell ⟨b,o,none⟩ v):=
 h.trans ((Offp.of_only ((Only.refl b w1).set o v)).mono (fun x e=>e▸hb))
theorem Offp.toBelow {S:Nat->Prop} {B:Nat} {w w1:World} (h:Offp S w w1) (hF:∀x,S x->B<=x) (hw:B<=w.heap.size):Below B w w1:=
 ⟨h.os,h.tape,h.output,h.size,fun i hi=>h.block i (by omega) (fun e=>by have:=hF i e;omega)⟩
theorem Offp.cell {S:Nat->Prop} {w w1:World} (h:Offp S w w1) {p:Addr} (hp:p.block<w.heap.size) (hb:¬S p.block):w1.cell? p=w.cell? p:=World.cell?_of_block (h.block p.block hp hb)
theorem Offp.frozen {S:Nat->Prop} {w w1:World} (h:Offp S w w1) {p:Addr} (hp:p.block<w.heap.size) (hb:¬S p.block):w1.frozen? p=w.frozen? p:=by
 unfold World.frozen?;rw[h.block p.block hp hb]
theorem Blk.offp {S:Nat->Prop} {W W' :World} {B:Nat} {t:TypeId} {vs:Array Value} (h:Blk W B t vs) (k:Offp S W W') (hne:¬S B):Blk W' B t vs:=(k.block B h.lt hne).trans h
theorem Qer {S:Nat->Prop} {c o n:Nat} {w w1:World} (h:w.there c o n) (k:Offp S w w1) (hc:c<w.heap.size) (hb:¬S c):w1.there c o n:=fun j hj=>by
 rw[k.cell (p:=⟨c,o+j,none⟩) hc hb,k.frozen (p:=⟨c,o+j,none⟩) hc hb];exact h j hj
section
variable {α:Type} [Cel α]
theorem In.offp {S:Nat->Prop} {c o:Nat} {w w1:World} {l:List α} (h:In w c o l) (k:Offp S w w1) (hc:c<w.heap.size) (hb:¬S c):In w1 c o l:=
 fun j v hv=>(k.cell (p:=⟨c,o+j,none⟩) hc hb).trans (h j v hv)
def Sub (w:World) (a:Option Addr) (l:List α) (S:Nat->Prop):Prop:=
  l= []∨∃b o,a=some ⟨b,o,none⟩/\S b/\b<w.heap.size/\In w b o l/\w.there b o (l.length*Cel.k α)
theorem Sub.offp {S T:Nat->Prop} {w w1:World} {a:Option Addr} {l:List α} (h:Sub w a l S) (k:Offp T w w1) (hd:∀x,S x->¬T x):Sub w1 a l S:=
 h.imp id fun⟨b,o,e,hs,hb,hi,ht⟩=>⟨b,o,e,hs,Nat.lt_of_lt_of_le hb k.size,hi.offp k hb (hd b hs),Qer ht k hb (hd b hs)⟩
theorem Qja (l:List α) (n:Nat) (hn:n<l.length) (y:α) (f:Nat) (hf:f<Cel.k α) (v:Value) (hy:Cel.cs y=(Cel.cs l[n]).set f v):flat (l.set n y)=(flat l).set (n*Cel.k α+f) v:=by
 induction l generalizing n with
 |nil=>simp at hn
 |cons x l ih=>
  cases n with
  |zero=>
   simp only[List.set_cons_zero,Qcv,Nat.zero_mul,Nat.zero_add];rw[List.set_append_left _ _ (by rw[Cel.len];exact hf),hy];rfl
  |succ n=>
   simp only[List.set_cons_succ,Qcv];rw[ih n (by simpa using hn) (by simpa using hy),List.set_append_right _ _ (by rw[Cel.len,Nat.add_mul];omega),Cel.len];congr 2;rw[Nat.add_mul];omega
theorem In.set1 {w:World} {b o:Nat} {l:List α} (h:In w b o l) (n:Nat) (hn:n<l.length) (y:α) (f:Nat) (hf:f<Cel.k α) (v:Value) (hy:Cel.cs y=(Cel.cs l[n]).set f v):In (w.setCell ⟨b,o+n*Cel.k α+f,none⟩ v) b o (l.set n y):=by
 intro j u hu;rw[Qja l n hn y f hf v hy]at hu;by_cases e:n*Cel.k α+f=j
 . subst e;rw[List.getElem?_set_self (by rw[Qcp];have:(n+1) *Cel.k α<=l.length*Cel.k α:=Nat.mul_le_mul_right _ hn;rw[Nat.add_mul]at this;omega)]at hu;cases hu;have hc:=h.cell n hn (f:=f) (v:=(Cel.cs l[n])[f]'(by rw[Cel.len];exact hf)) (List.getElem?_eq_getElem _);rw[← Nat.add_assoc];exact World.cell?_setCell_same' _ _ _ (by rw[hc];rfl)
 . rw[List.getElem?_set_ne e]at hu;rw[World.cell?_setCell_other (h:=fun ee=>by have:=congrArg Addr.off ee;simp only at this;omega)];exact h j u hu
variable {P:World->α->(Nat->Prop)->Prop}
def Firm (P:World->α->(Nat->Prop)->Prop):Prop:=∀(w w' :World) (x:α) (S T:Nat->Prop),P w x S->Offp T w w' ->(∀y,S y->¬T y)->P w' x S
structure OwnF (P:World->α->(Nat->Prop)->Prop) (w:World) (b o:Nat) (l:List α) (fp:Nat->Nat->Prop):Prop where
  lt:b<w.heap.size
  lst:In w b o l
  th:w.there b o (l.length*Cel.k α)
  sub:∀(i:Nat) (h:i<l.length),P w l[i] (fp i)
  dis:∀i j,i≠j->∀x,fp i x->¬fp j x
  nb:∀i,¬fp i b
theorem OwnF.offp (hP:Firm P) {w w' :World} {b o:Nat} {l:List α} {fp:Nat->Nat->Prop} {T:Nat->Prop} (h:OwnF P w b o l fp) (k:Offp T w w') (hb:¬T b) (hd:∀i x,fp i x->¬T x):OwnF P w' b o l fp:=
 ⟨Nat.lt_of_lt_of_le h.lt k.size,h.lst.offp k h.lt hb,Qer h.th k h.lt hb,fun i hi=>hP _ _ _ _ _ (h.sub i hi) k (hd i),h.dis,h.nb⟩
def Own (P:World->α->(Nat->Prop)->Prop) (w:World) (a:Option Addr) (l:List α) (S:Nat->Prop):Prop:=
  l= []∨∃b o fp,a=some ⟨b,o,none⟩/\S b/\(∀i x,fp i x->S x)/\OwnF P w b o l fp
theorem Own.offp (hP:Firm P) {S T:Nat->Prop} {w w1:World} {a:Option Addr} {l:List α} (h:Own P w a l S) (k:Offp T w w1) (hd:∀x,S x->¬T x):Own P w1 a l S:=
 h.imp id fun⟨b,o,fp,e,hs,hf,hO⟩=>⟨b,o,fp,e,hs,hf,hO.offp hP k (hd b hs) (fun i x hx=>hd x (hf i x hx))⟩
theorem Qdi (w:World) (b:Nat):∀(vs:List Value) (o:Nat),Only b w (w.setCells b o vs):=by
 intro vs
 induction vs generalizing w with
 |nil=>intro o;exact Only.refl _ _
 |cons v vs ih=>
  intro o;have h1:Only b w (w.setCell ⟨b,o,none⟩ v):=(Only.refl b w).set o v;have h2:=ih (w.setCell ⟨b,o,none⟩ v) (o+1);exact⟨h2.os.trans h1.os,h2.tape.trans h1.tape,h2.output.trans h1.output,Nat.le_trans h1.size h2.size,fun i hi hb=>(h2.block i (Nat.lt_of_lt_of_le hi h1.size) hb).trans (h1.block i hi hb)⟩
end
theorem Qb8 {W W' :World} {row:Option Nat} (h:W.grownBy W' row):Offp (fun x=>row=some x) W W' :=⟨h.os,h.tape,h.output,h.size,fun k hk hn=>h.block k hk (fun e=>hn e.symm)⟩
theorem Qbc {B:Nat} {W W' :World} {v:Value} {t:TypeId} {k n:Nat} {xs:List Value} {S:Nat->Prop} (h:W.ownsRow B t k v n xs) (hg:Offp S W W') (hne:∀x,v.ownBlock=some x->¬S x):W'.ownsRow B t k v n xs:=by
 refine⟨h.1,?_⟩;rcases h.2 with⟨rfl,rfl⟩|⟨g,c,cur,rfl,hB,hb,hc,hm,hsz,ht⟩
 . exact .inl ⟨rfl,rfl⟩
 . exact .inr ⟨g,c,cur,rfl,hB,Blk.offp (show Blk W g t cur from hb) hg (hne g rfl),hc,hm,hsz,ht⟩
section
variable {α:Type}
end
open Joins Deep
structure Mk where
  seq:Int
  off:Int
instance:Inhabited Mk:=⟨⟨0,0⟩⟩
instance:Cel Mk where
  k:=2
  cs x:= [.int .i64 x.seq,.int .i64 x.off]
  len _:=rfl
  one x u hu:=by simp at hu;rcases hu with rfl|rfl<;>rfl
theorem In.getMk {w:World} {b o:Nat} {l:List Mk} (h:In w b o l) (i:Nat) (hi:i<l.length):
 w.cell? ⟨b,o+i*2,none⟩=some (.int .i64 l[i].seq)/\w.cell? ⟨b,o+i*2+1,none⟩=some (.int .i64 l[i].off):=
 ⟨h.cell i hi (f:=0) rfl,h.cell i hi (f:=1) rfl⟩
theorem Qtm:(Tryz.prog.info? 141).map (fun i=>(i.zero,i.size,i.bytes))=some (some (.agg l0II),2,16):=by kernel_rfl
structure MC where
  row:Int
  who:Int
  epoch:Int
  last:Int
  A:Option Addr
  cap:Nat
  ms:List Mk
instance:Inhabited MC:=⟨⟨0,0,0,0,none,0,[]⟩⟩
instance:Cel MC where
  k:=5
  cs x:= [.int .i64 x.row,.int .i64 x.who,.int .i64 x.epoch,.int .i64 x.last,.slice x.A x.ms.length x.cap]
  len _:=rfl
  one x u hu:=by simp at hu;rcases hu with rfl|rfl|rfl|rfl|rfl<;>rfl
structure PM where
  row:Int
  who:Int
  epoch:Int
  last:Int
  ms:List Mk
def MC.p (x:MC):PM:=⟨x.row,x.who,x.epoch,x.last,x.ms⟩
def Each (w:World) (l:List MC):Prop:=∀x∈l,At w x.A x.ms
theorem Each.below {w w' :World} {l:List MC} (h:Each w l) (hw:Below w.heap.size w w'):Each w' l:=fun x hx=>(h x hx).below hw
theorem In.getMC {w:World} {b o:Nat} {l:List MC} (h:In w b o l) (i:Nat) (hi:i<l.length):
 w.cell? ⟨b,o+i*5,none⟩=some (.int .i64 l[i].row)/\w.cell? ⟨b,o+i*5+1,none⟩=some (.int .i64 l[i].who)/\w.cell? ⟨b,o+i*5+2,none⟩=some (.int .i64 l[i].epoch)/\
  w.cell? ⟨b,o+i*5+3,none⟩=some (.int .i64 l[i].last)/\w.cell? ⟨b,o+i*5+4,none⟩=some (.slice l[i].A l[i].ms.length l[i].cap):=
 ⟨h.cell i hi (f:=0) rfl,h.cell i hi (f:=1) rfl,h.cell i hi (f:=2) rfl,h.cell i hi (f:=3) rfl,h.cell i hi (f:=4) rfl⟩
theorem Qrd:(Tryz.prog.info? 139).map (fun i=>(i.zero,i.size,i.bytes))=some (some (.agg Qdz),5,56):=by kernel_rfl
end Go.Proofs.YtajbldnhjpjghaaGreat.Gen
namespace Go.Proofs.YtajbldnhjpjghaaGreat.Items
open ChangeShapes WideShapes ChangeAt RowKit Base
def Qt6 (k:Nat):ByteArray:=⟨(109::Lib.decDigits k).toArray⟩
def Qta (z:Int):ByteArray:=Qt6 z.toNat
end Go.Proofs.YtajbldnhjpjghaaGreat.Items
namespace Go.Proofs.YtajbldnhjpjghaaGreat.Gen
open ChangeShapes WideShapes ChangeAt RowKit Joins Deep Base
structure An where
  code:Int
  n:Int
  key:ByteArray
  text:ByteArray
instance:Inhabited An:=⟨⟨0,0,⟨#[]⟩,⟨#[]⟩⟩⟩
instance:Cel An where
  k:=4
  cs x:= [.int .i64 x.code,.int .i64 x.n,.string x.key,.string x.text]
  len _:=rfl
  one x u hu:=by simp at hu;rcases hu with rfl|rfl|rfl|rfl<;>rfl
theorem In.getAn {w:World} {b o:Nat} {l:List An} (h:In w b o l) (i:Nat) (hi:i<l.length):
 w.cell? ⟨b,o+i*4,none⟩=some (.int .i64 l[i].code)/\w.cell? ⟨b,o+i*4+1,none⟩=some (.int .i64 l[i].n)/\w.cell? ⟨b,o+i*4+2,none⟩=some (.string l[i].key)/\w.cell? ⟨b,o+i*4+3,none⟩=some (.string l[i].text):=
 ⟨h.cell i hi (f:=0) rfl,h.cell i hi (f:=1) rfl,h.cell i hi (f:=2) rfl,h.cell i hi (f:=3) rfl⟩
theorem Qou:(Tryz.prog.info? 145).map (fun i=>(i.zero,i.size,i.bytes))=some (some (.agg Qaq),4,48):=by kernel_rfl
def Qbz (l:List Mk) (seq:Int) (n:Nat):Option Mk:=(l.drop n).find? fun x=>decide (x.seq=seq)
theorem Qjo {l:List Mk} {seq:Int} {n:Nat} (h:l.length<=n):Qbz l seq n=none:=by
 unfold Qbz;rw[List.drop_eq_nil_of_le h];rfl
theorem Qjn {l:List Mk} {seq:Int} {n:Nat} (h:n<l.length) (hx:l[n].seq=seq):Qbz l seq n=some l[n]:=by
 unfold Qbz;rw[List.drop_eq_getElem_cons h,List.find?_cons_of_pos (by simpa using hx)]
theorem Qig {l:List Mk} {seq:Int} {n:Nat} (h:n<l.length) (hx:¬l[n].seq=seq):Qbz l seq n=Qbz l seq (n+1):=by
 unfold Qbz;rw[List.drop_eq_getElem_cons h,List.find?_cons_of_neg (by simpa using hx)]
def upC (l:List Mk) (seq:Int):Int:=match Qbz l seq 0 with|some _=>1|none=>2
def upO (l:List Mk) (seq:Int):Int:=match Qbz l seq 0 with|some x=>x.off|none=>0
def askC (epoch last:Int) (l:List Mk) (ep seq:Int):Int:=
  if ep<epoch then 4 else if ep>epoch then(if seq=0 then 0 else 3)else if seq>last then(if wrap64 (seq - 1)=last then 0 else 3)else upC l seq
def askO (epoch last:Int) (l:List Mk) (ep seq:Int):Int:=
  if ep<epoch then 0 else if ep>epoch then 0 else if seq>last then 0 else upO l seq
theorem Qda (row who epoch last ep seq:Int) (A:Option Addr) (cap:Nat) (l:List Mk) (hl:l.length<=1048576) (w:World) (hA:At w A l):
 Calls Tryz.prog 126 #[.agg (Qal row who epoch last A l.length cap),.int .i64 ep,.int .i64 seq] w fun e w' =>e= .returned (.tuple (l1II (askC epoch last l ep seq) (askO epoch last l ep seq)))/\Below w.heap.size w w' :=by
 have HA:Hid (At w A l):=hA;clear hA;by_cases h1:ep<epoch
 . have e1:Hid (askC epoch last l ep seq=4):=(by show _=_;simp[askC,h1]);have e2:Hid (askO epoch last l ep seq=0):=(by show _=_;simp[askO,h1]);go_enter Tryz.func126,Tryz.ntmps126;go_wp2
   go_ret2
   exact⟨by rw[e1.out,e2.out];rfl,by repeat(first|exact Below.refl _ _|assumption|refine via0 (by assumption) ?_|refine Below.drew ?_|refine Qad ?_ _)⟩
 by_cases h2:ep>epoch
 . by_cases h3:seq=0
   . subst h3;have e1:Hid (askC epoch last l ep 0=0):=(by show _=_;simp[askC,h1,h2]);have e2:Hid (askO epoch last l ep 0=0):=(by show _=_;simp[askO,h1,h2]);go_enter Tryz.func126,Tryz.ntmps126;go_wp2
     go_ret2
     exact⟨by rw[e1.out,e2.out];rfl,by repeat(first|exact Below.refl _ _|assumption|refine via0 (by assumption) ?_|refine Below.drew ?_|refine Qad ?_ _)⟩
   . have e1:Hid (askC epoch last l ep seq=3):=(by show _=_;simp[askC,h1,h2,h3]);have e2:Hid (askO epoch last l ep seq=0):=(by show _=_;simp[askO,h1,h2]);go_enter Tryz.func126,Tryz.ntmps126;go_wp2
     go_ret2
     exact⟨by rw[e1.out,e2.out];rfl,by repeat(first|exact Below.refl _ _|assumption|refine via0 (by assumption) ?_|refine Below.drew ?_|refine Qad ?_ _)⟩
 by_cases h3:seq>last
 . by_cases h4:wrap64 (seq - 1)=last
   all_goals
    have e1:Hid (askC epoch last l ep seq=if wrap64 (seq - 1)=last then 0 else 3):=(by show _=_;simp[askC,h1,h2,h3]);have e2:Hid (askO epoch last l ep seq=0):=(by show _=_;simp[askO,h1,h2,h3]);have h4' :=hidP h4;go_enter Tryz.func126,Tryz.ntmps126;go_wp2
    go_ret2
    exact⟨by rw[e1.out,e2.out];simp[h4'.out],by repeat(first|exact Below.refl _ _|assumption|refine via0 (by assumption) ?_|refine Below.drew ?_|refine Qad ?_ _)⟩
 have e1:Hid (askC epoch last l ep seq=upC l seq):=by show _=_;simp[askC,h1,h2,h3]
 have e2:Hid (askO epoch last l ep seq=upO l seq):=by show _=_;simp[askO,h1,h2,h3]
 go_enter Tryz.func126,Tryz.ntmps126;go_wp2
 go_loopw [8] (fun i w' =>∃(n:Nat),i= .int .i64 (n:Int)/\n<=l.length/\w' =w.alloc (.cells (Qal row who epoch last A l.length cap) 139)/\Hid (Qbz l seq n=Qbz l seq 0)) (fun i _=>l.length - (intOf i).toNat)
 case atStart=>exact⟨0,rfl,by omega,rfl,rfl⟩
 case round=>
  obtain⟨n,rfl,hn,rfl,hf⟩:=hrel;by_cases hlt:n<l.length
  . obtain⟨b,o,rfl,hbs,hin⟩:∃b o,A=some ⟨b,o,none⟩/\b<w.heap.size/\In w b o l:=by
     rcases HA.out with h|h
     . subst h;simp at hlt
     . exact h
    obtain⟨c0,c1⟩:=hin.getMk n hlt;have hi0:(0:Int)<=(n:Int):=(by omega);have hi1:(n:Int)<(l.length:Int):=(by omega);by_cases hx:l[n].seq=seq
    . have hF:Hid (Qbz l seq 0=some l[n]):=(by show Qbz l seq 0=some l[n];rw[← hf.out,Qjn hlt hx]);have e3:Hid (upC l seq=1):=(by show _=_;unfold upC;rw[hF.out]);have e4:Hid (upO l seq=l[n].off):=(by show _=_;unfold upO;rw[hF.out]);go_wp2
      go_region
      all_goals
       go_wp2
       go_ret2
       exact⟨by rw[e1.out,e2.out,e3.out,e4.out];rfl,by repeat(first|exact Below.refl _ _|assumption|refine via0 (by assumption) ?_|refine Below.drew ?_|refine Qad ?_ _)⟩
    . have hF:Hid (Qbz l seq (n+1)=Qbz l seq 0):=(by show _=_;rw[← hf.out,Qig hlt hx]);go_wp2;exact⟨⟨n+1,by go_num,by omega,by first|trivial|rfl,hF⟩,by simp[intOf];omega⟩
  . have hF:Hid (Qbz l seq 0=none):=(by show Qbz l seq 0=none;rw[← hf.out,Qjo (by omega)]);have e3:Hid (upC l seq=2):=(by show _=_;unfold upC;rw[hF.out]);have e4:Hid (upO l seq=0):=(by show _=_;unfold upO;rw[hF.out]);go_wp2
    go_ret2
    exact⟨by rw[e1.out,e2.out,e3.out,e4.out];rfl,by repeat(first|exact Below.refl _ _|assumption|refine via0 (by assumption) ?_|refine Below.drew ?_|refine Qad ?_ _)⟩
instance:Cel UInt8 where
  k:=1
  cs x:= [.int .u8 (x.toNat:Int)]
  len _:=rfl
  one x u hu:=by simp at hu;subst hu;rfl
theorem In.getB {w:World} {b o:Nat} {l:List UInt8} (h:In w b o l) (i:Nat) (hi:i<l.length):w.cell? ⟨b,o+i,none⟩=some (.int .u8 (l[i].toNat:Int)):=by
 have:=h.cell i hi (f:=0) rfl;have e:o+i*Cel.k UInt8+0=o+i:=by show o+i*1+0=o+i;omega
 rwa [e]at this
theorem Qng {w:World} {b o m n:Nat} (h:w.there b o (m*1)) (hn:n<m):(∃v,w.cell? ⟨b,o+n,none⟩=some v)/\w.frozen? ⟨b,o+n,none⟩=false:=by
 have:=Qlg (f:=0) h hn (by omega);rwa [Nat.mul_one,Nat.add_zero]at this
theorem Qj1:(Tryz.prog.info? 5).map (fun i=>(i.zero,i.size,i.bytes))=some (some (.int .u8 0),1,1):=by kernel_rfl
theorem Qef (B:Nat) (v:Value) (l m:List UInt8) (A:Option Addr) (cap:Nat) (w:World) (hB:B<=w.heap.size) (hv:w.ownsRow B 5 1 v l.length (flat l)) (hA:At w A m) (hlen:l.length+m.length<=1000000000):
 ∃v' w',(Builtin.append_ #[22,22] 22 #[v,.slice A m.length cap]).run Tryz.prog w= .ok v' w' /\w'.ownsRow B 5 1 v' (l.length+m.length) (flat (l++m))/\w.grownBy w' v.ownBlock/\(v'.ownBlock=v.ownBlock∨v'.ownBlock=some w.heap.size):=by
 obtain⟨i0,hi,hz0,hz1,hz2⟩:=info_parts Qj1;by_cases h0:m= []
 . subst h0;have e0:∃a n c,v= .slice a n c/\n<=c:=by
    rcases hv.2 with⟨rfl,_⟩|⟨g,c,cur,rfl,_,_,h,_⟩
    . exact⟨_,_,_,rfl,Nat.le_refl _⟩
    . exact⟨_,_,_,rfl,h⟩
   obtain⟨a,n,c,rfl,hle⟩:=e0;exact⟨_,_,run_append_nothing w 22 22 22 5 i0 Tryz.underlying22 hi a n c hle _ (hz1▸Qf8 _ 22 5 Tryz.underlying22 A cap w),by simpa using hv,World.grownBy.refl _ _,.inl rfl⟩
 . obtain⟨b,o,rfl,hb,hin⟩:=hA.resolve_left h0;have hm:0<m.length:=List.length_pos_iff.2 h0;obtain⟨g,c,w',hr,h1,h2,h3,h4⟩:=run_append_lies (P:=Tryz.prog) w 22 22 B 5 i0 (.int .u8 0) 1 1 Tryz.underlying22 hi hz0 hz1 hz2 rfl (by decide) v l.length (flat l) hv ⟨b,o,none⟩ m.length cap (flat m) (Qcp m)
    (fun j u hu=>by rw[Addr.add_mid];exact hin j u hu) (Qj8 m) hm (by simp[maxLen];omega) (by omega) hB _ rfl
   exact⟨_,_,hr,by rw[Qdd];exact h1,h2,h3.imp (fun e=>by rw[e];rfl) (fun e=>by rw[← e];rfl)⟩
def u8 (z:Int):UInt8:=UInt8.ofNat (z % 256).toNat
theorem Qps (z:Int):((u8 z).toNat:Int)=z % 256:=by
 unfold u8;rw[UInt8.toNat_ofNat'];omega
theorem Qt5 (w:World) (x:UInt8) (t:TypeId):At (w.alloc (.cells #[.int .u8 (x.toNat:Int)] t)) (some ⟨w.heap.size,0,none⟩) [x]:=by
 refine .inr ⟨_,_,rfl,by simp,?_⟩;intro j v hv;rw[Qdg]at hv;have hj:j<1:=(List.getElem?_eq_some_iff.1 hv).1;obtain rfl:j=0:=by omega
 have hv' :some (Value.int .u8 (x.toNat:Int))=some v:=hv;rw[← hv'];simp
def numB (n:Nat):List UInt8:=if h:n<128 then [UInt8.ofNat n]else UInt8.ofNat (n % 128+128)::numB (n / 128)
termination_by n
decreasing_by omega
theorem Qd3 {n:Nat} (h:n<128):numB n= [UInt8.ofNat n]:=by rw[numB];simp[h]
theorem Qfh {n:Nat} (h:¬n<128):numB n=UInt8.ofNat (n % 128+128)::numB (n / 128):=by rw[numB];simp[h]
theorem Qlm {n:Nat} (h:n<128):(numB n).length<=1:=by rw[Qd3 h];simp
theorem Qfg {n k:Nat} (h:(numB (n / 128)).length<=k) (hk:0<k):(numB n).length<=k+1:=by
 by_cases q:n<128
 . have:=Qlm q;omega
 . rw[Qfh q];simp;omega
theorem Qcx {n:Nat} (h:n<34359738368):(numB n).length<=5:=
 Qfg (Qfg (Qfg (Qfg (Qlm (by omega)) (by omega)) (by omega)) (by omega)) (by omega)
def numI (n:Int):List UInt8:=if 0<=n/\n<=2147483647 then numB n.toNat else []
theorem Qb7 {n:Nat} (h:n<=2147483647):numI (n:Int)=numB n:=by unfold numI;rw[if_pos (by omega)];simp
theorem Qbm (n:Int):(numI n).length<=5:=by
 unfold numI;split
 . exact Qcx (by omega)
 . simp
def getD:Nat->Nat->Nat->List UInt8->Option (Nat × Nat)
  |0,_,_,_=>none
  |_+1,_,_,[]=>none
  |f+1,k,acc,d::r=>
    if d.toNat<128 then(if(0<k/\d.toNat=0)∨2147483647<acc+d.toNat % 128*128 ^ k then none else some (acc+d.toNat % 128*128 ^ k,k+1))
    else getD f (k+1) (acc+d.toNat % 128*128 ^ k) r
def getN (l:List UInt8) (i:Int):Option (Nat × Nat):=if 0<=i then(getD 5 0 0 (l.drop i.toNat)).map fun x=>(x.1,i.toNat+x.2)else none
theorem Qo9:∀(f k acc:Nat) (l:List UInt8) (n c:Nat),getD f k acc l=some (n,c)->n<=2147483647/\k<c/\c - k<=l.length/\c<=k+f:=by
 intro f
 induction f with
 |zero=>intro k acc l n c h;simp[getD]at h
 |succ f ih=>
  intro k acc l n c h;cases l with
  |nil=>simp[getD]at h
  |cons d r=>
   simp only[getD]at h;split at h
   . split at h
     . cases h
     . rename_i h1;simp only[Option.some.injEq,Prod.mk.injEq]at h;obtain⟨rfl,rfl⟩:=h;simp only[List.length_cons];omega
   . obtain⟨h1,h2,h3,h4⟩:=ih _ _ _ _ _ h;simp only[List.length_cons];omega
theorem Qbp {l:List UInt8} {i:Int} {n c:Nat} (h:getN l i=some (n,c)):n<=2147483647/\0<=i/\i<(c:Int)/\c<=l.length/\c<=i.toNat+5:=by
 unfold getN at h;split at h
 . rename_i hi;cases hg:getD 5 0 0 (l.drop i.toNat)with
   |none=>rw[hg]at h;cases h
   |some x=>
    obtain⟨x1,x2⟩:=x;rw[hg]at h;simp only[Option.map_some,Option.some.injEq,Prod.mk.injEq]at h;obtain⟨rfl,rfl⟩:=h;obtain⟨h1,h2,h3,h4⟩:=Qo9 _ _ _ _ _ _ hg;simp only[List.length_drop]at h3;omega
 . cases h
theorem Qly {l:List UInt8} {i:Int} (h:i<0):getN l i=none:=by unfold getN;rw[if_neg (by omega)]
theorem Qo3 {l:List UInt8} {i:Int} (h:(l.length:Int)<=i):getN l i=none:=by
 unfold getN;split
 . rw[List.drop_eq_nil_of_le (by omega)];rfl
 . rfl
theorem Qo8 {l:List UInt8} {i k:Nat} (h:i+k<l.length) (f acc:Nat):
 getD (f+1) k acc (l.drop (i+k))=if(l[i+k]).toNat<128 then(if(0<k/\(l[i+k]).toNat=0)∨2147483647<acc+(l[i+k]).toNat % 128*128 ^ k then none else some (acc+(l[i+k]).toNat % 128*128 ^ k,k+1))
  else getD f (k+1) (acc+(l[i+k]).toNat % 128*128 ^ k) (l.drop (i+(k+1))):=by
 rw[List.drop_eq_getElem_cons h];rfl
theorem Qo6 {l:List UInt8} {i k:Nat} (h:¬i+k<l.length) (f acc:Nat):getD f k acc (l.drop (i+k))=none:=by
 rw[List.drop_eq_nil_of_le (by omega)];cases f<;>rfl
theorem Qo7 (r:List UInt8):∀(f k acc n:Nat),n<128 ^ f->0<f->acc+n*128 ^ k<=2147483647->(0<k->0<n)->getD f k acc (numB n++r)=some (acc+n*128 ^ k,k+(numB n).length):=by
 intro f
 induction f with
 |zero=>intro k acc n h h0;omega
 |succ f ih=>
  intro k acc n h _ hb hk;by_cases q:n<128
  . rw[Qd3 q];have e:(UInt8.ofNat n).toNat=n:=(by rw[UInt8.toNat_ofNat'];omega);simp only[List.cons_append,List.nil_append,getD,e,q,if_true,List.length_cons,List.length_nil,Nat.mod_eq_of_lt q];rw[if_neg];rintro (⟨h1,h2⟩|h1)
    . have:=hk h1;omega
    . omega
  . rw[Qfh q];have e:(UInt8.ofNat (n % 128+128)).toNat=n % 128+128:=(by rw[UInt8.toNat_ofNat'];omega);have hq:¬n % 128+128<128:=(by omega);have hm:(n % 128+128) % 128=n % 128:=(by omega);have hdiv:n / 128<128 ^ f:=(by rw[Nat.div_lt_iff_lt_mul (by omega)];rwa [Nat.pow_succ]at h);have hn:n=n % 128+128* (n / 128):=(Nat.mod_add_div n 128).symm;have hsum:acc+n % 128*128 ^ k+n / 128*128 ^ (k+1)=acc+n*128 ^ k:=by
     rw[Nat.pow_succ,Nat.add_assoc];congr 1
     conv=>rhs;rw[hn]
     rw[Nat.add_mul,Nat.mul_assoc,Nat.mul_comm 128 (n / 128*_),Nat.mul_assoc]
    have hf:0<f:=by
     cases f with
     |zero=>simp at hdiv;omega
     |succ f=>omega
    simp only[List.cons_append,getD,e,hq,if_false,hm];rw[ih (k+1) (acc+n % 128*128 ^ k) (n / 128) hdiv hf (by omega) (fun _=>by omega),hsum];simp;omega
theorem Qj3 {n:Nat} (h:n<=2147483647) (p r:List UInt8):getN (p++(numB n++r)) (p.length:Int)=some (n,p.length+(numB n).length):=by
 unfold getN;rw[if_pos (by omega)];have e:(p.length:Int).toNat=p.length:=by omega
 rw[e,List.drop_left,Qo7 r 5 0 0 n (by omega) (by omega) (by omega) (by omega)];simp
theorem Qn5:∀(f k acc:Nat) (l:List UInt8) (n c:Nat),getD f k acc l=some (n,c)->∃m,n=acc+m*128 ^ k/\numB m=l.take (c - k)/\(0<k->0<m):=by
 intro f
 induction f with
 |zero=>intro k acc l n c h;simp[getD]at h
 |succ f ih=>
  intro k acc l n c h;cases l with
  |nil=>simp[getD]at h
  |cons d r=>
   simp only[getD]at h;split at h
   . rename_i hd;split at h
     . cases h
     . rename_i h1;simp only[Option.some.injEq,Prod.mk.injEq]at h;obtain⟨rfl,rfl⟩:=h;refine⟨d.toNat,by rw[Nat.mod_eq_of_lt hd],?_,?_⟩
       . rw[Qd3 hd,show k+1 - k=1 by omega];simp
       . intro hk;omega
   . rename_i hd;obtain⟨m,h1,h2,h3⟩:=ih _ _ _ _ _ h;obtain⟨_,h4,_⟩:=Qo9 _ _ _ _ _ _ h;have hm:=h3 (by omega);have hlt:d.toNat<256:=d.toNat_lt;have e1:(d.toNat % 128+128*m) % 128=d.toNat % 128:=(by omega);have e2:(d.toNat % 128+128*m) / 128=m:=(by omega);have e3:d.toNat % 128+128=d.toNat:=(by omega);refine⟨d.toNat % 128+128*m,?_,?_,fun _=>by omega⟩
     . rw[h1,Nat.pow_succ,Nat.add_mul,Nat.add_assoc];congr 1;rw[Nat.mul_comm 128 m,Nat.mul_assoc,Nat.mul_comm (128 ^ k) 128]
     . rw[Qfh (by omega),e1,e2,e3,h2];have:c - k=(c - (k+1))+1:=(by omega);rw[this,List.take_succ_cons];simp
theorem Qjj {l:List UInt8} {i:Int} {n c:Nat} (h:getN l i=some (n,c)):numB n=(l.drop i.toNat).take (c - i.toNat):=by
 unfold getN at h;split at h
 . cases hg:getD 5 0 0 (l.drop i.toNat)with
   |none=>rw[hg]at h;cases h
   |some x=>
    obtain⟨x1,x2⟩:=x;rw[hg]at h;simp only[Option.map_some,Option.some.injEq,Prod.mk.injEq]at h;obtain⟨rfl,rfl⟩:=h;obtain⟨m,h1,h2,_⟩:=Qn5 _ _ _ _ _ _ hg;have:i.toNat+x2 - i.toNat=x2 - 0:=(by omega);rw[this,← h2,h1];simp
 . cases h
end Go.Proofs.YtajbldnhjpjghaaGreat.Gen
