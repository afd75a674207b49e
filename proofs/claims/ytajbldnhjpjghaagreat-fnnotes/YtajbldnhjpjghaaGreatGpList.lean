/-
  Lists of groups, each with its three lists: how they lie, what the laws' to, sz, eq, mark and held functions of them do; the argument opened. No condition but that there are at most 1048576.
-/
import Derived.Test.YtajbldnhjpjghaaGreatDrawC
set_option linter.unusedVariables false
set_option linter.unusedSimpArgs false
set_option maxRecDepth 100000
set_option maxHeartbeats 8000000
set_option maxRecDepth 100000
set_option maxHeartbeats 8000000
namespace Go.Proofs.YtajbldnhjpjghaaGreat.Gen
open ChangeShapes WideShapes ChangeAt RowKit Joins Deep Base
structure GC where
  gen:Int
  a1:Option Addr
  c1:Nat
  m:List Int
  a2:Option Addr
  c2:Nat
  b:List Int
  a3:Option Addr
  c3:Nat
  o:List Int
instance:Inhabited GC:=⟨⟨0,none,0,[],none,0,[],none,0,[]⟩⟩
instance:Cel GC where
  k:=4
  cs x:= [.int .i64 x.gen,.slice x.a1 x.m.length x.c1,.slice x.a2 x.b.length x.c2,.slice x.a3 x.o.length x.c3]
  len _:=rfl
  one x u hu:=by simp at hu;rcases hu with rfl|rfl|rfl|rfl<;>rfl
structure PG where
  gen:Int
  m:List Int
  b:List Int
  o:List Int
def GC.p (x:GC):PG:=⟨x.gen,x.m,x.b,x.o⟩
def atG (w:World) (x:GC):Prop:=At w x.a1 x.m/\At w x.a2 x.b/\At w x.a3 x.o
theorem atG.below {w w' :World} {x:GC} (h:atG w x) (hw:Below w.heap.size w w'):atG w' x:=⟨h.1.below hw,h.2.1.below hw,h.2.2.below hw⟩
def EachG (w:World) (l:List GC):Prop:=∀x∈l,atG w x
theorem EachG.below {w w' :World} {l:List GC} (h:EachG w l) (hw:Below w.heap.size w w'):EachG w' l:=fun x hx=>(h x hx).below hw
def grpP (w:World) (x:GC) (S:Nat->Prop):Prop:=
  ∃S1 S2 S3:Nat->Prop,(∀y,S1 y->S y)/\(∀y,S2 y->S y)/\(∀y,S3 y->S y)/\(∀y,S1 y->¬S2 y)/\(∀y,S1 y->¬S3 y)/\(∀y,S2 y->¬S3 y)/\Sub w x.a1 x.m S1/\Sub w x.a2 x.b S2/\Sub w x.a3 x.o S3
theorem Qdj:Firm grpP:=fun w w' x S T ⟨S1,S2,S3,i1,i2,i3,d1,d2,d3,s1,s2,s3⟩ k hd=>
 ⟨S1,S2,S3,i1,i2,i3,d1,d2,d3,s1.offp k (fun y hy=>hd y (i1 y hy)),s2.offp k (fun y hy=>hd y (i2 y hy)),s3.offp k (fun y hy=>hd y (i3 y hy))⟩
theorem In.getGC {w:World} {b o:Nat} {l:List GC} (h:In w b o l) (i:Nat) (hi:i<l.length):
 w.cell? ⟨b,o+i*4,none⟩=some (.int .i64 l[i].gen)/\w.cell? ⟨b,o+i*4+1,none⟩=some (.slice l[i].a1 l[i].m.length l[i].c1)/\w.cell? ⟨b,o+i*4+2,none⟩=some (.slice l[i].a2 l[i].b.length l[i].c2)/\w.cell? ⟨b,o+i*4+3,none⟩=some (.slice l[i].a3 l[i].o.length l[i].c3):=
 ⟨h.cell i hi (f:=0) rfl,h.cell i hi (f:=1) rfl,h.cell i hi (f:=2) rfl,h.cell i hi (f:=3) rfl⟩
theorem Qre:(Tryz.prog.info? 143).map (fun i=>(i.zero,i.size,i.bytes))=some (some (.agg Qcu),4,80):=by kernel_rfl
def makP (w:World) (x:MC) (S:Nat->Prop):Prop:=Sub w x.A x.ms S
theorem Qfj:Firm makP:=fun w w' x S T h k hd=>Sub.offp h k hd
theorem Blk.row6 {W:World} {B:Nat} {t:TypeId} {a b c d e f:Value} (h:Blk W B t #[a,b,c,d,e,f]):W.cell? ⟨B,0,none⟩=some a/\W.cell? ⟨B,1,none⟩=some b/\W.cell? ⟨B,2,none⟩=some c/\W.cell? ⟨B,3,none⟩=some d/\W.cell? ⟨B,4,none⟩=some e/\W.cell? ⟨B,5,none⟩=some f:=⟨h.cell (by rfl),h.cell (by rfl),h.cell (by rfl),h.cell (by rfl),h.cell (by rfl),h.cell (by rfl)⟩
structure KC where
  rA:Option Addr
  rc:Nat
  rs:List RC
  mA:Option Addr
  mc:Nat
  ms:List MC
  gA:Option Addr
  gc:Nat
  gs:List GC
  time:Int
  dA:Option Addr
  dc:Nat
  ds:List Int
  lA:Option Addr
  lc:Nat
  ls:List An
structure PK where
  rs:List PR
  ms:List PM
  gs:List PG
  time:Int
  ds:List Int
  ls:List An
def KC.p (x:KC):PK:=⟨x.rs.map RC.p,x.ms.map MC.p,x.gs.map GC.p,x.time,x.ds,x.ls⟩
def KC.cells (x:KC):Array Value:=(Qaa x.rA x.rs.length x.rc x.mA x.ms.length x.mc x.gA x.gs.length x.gc x.time x.dA x.ds.length x.dc x.lA x.ls.length x.lc)
structure KAt (w:World) (x:KC):Prop where
  ra:At w x.rA x.rs
  re:EachR w x.rs
  ma:At w x.mA x.ms
  me:Each w x.ms
  ga:At w x.gA x.gs
  ge:EachG w x.gs
  da:At w x.dA x.ds
  la:At w x.lA x.ls
theorem KAt.below {w w' :World} {x:KC} (h:KAt w x) (g:Below w.heap.size w w'):KAt w' x:=
 ⟨h.ra.below g,h.re.below g,h.ma.below g,h.me.below g,h.ga.below g,h.ge.below g,h.da.below g,h.la.below g⟩
structure KCol (w:World) (x:KC) (S:Nat->Prop) (col:Nat->Nat):Prop where
  r:Own rowP w x.rA x.rs (fun b=>S b/\col b=1)
  m:Own makP w x.mA x.ms (fun b=>S b/\col b=2)
  g:Own grpP w x.gA x.gs (fun b=>S b/\col b=3)
  d:Sub w x.dA x.ds (fun b=>S b/\col b=4)
  l:Sub w x.lA x.ls (fun b=>S b/\col b=5)
def KOwn (w:World) (x:KC) (S:Nat->Prop):Prop:=∃col,KCol w x S col
def upF (gen:Int):Int:=if gen>=100000 then gen else gen+1
theorem Qgb (gen:Int) (hg:I64 gen) (w:World):Calls Tryz.prog 114 #[.int .i64 gen] w fun e w' =>e= .returned (.int .i64 (upF gen))/\w' =w:=by
 obtain⟨h0,h1⟩:=hg;by_cases h:gen>=100000
 . have e:Hid (upF gen=gen):=(by show _=_;simp[upF,h]);go_enter Tryz.func114,Tryz.ntmps114;go_wp2;go_ret;exact⟨by rw[e.out];rfl,rfl⟩
 . have e:Hid (upF gen=gen+1):=(by show _=_;simp[upF,h]);have hb:gen+1<=100000:=(by omega);go_enter Tryz.func114,Tryz.ntmps114;go_wp2;go_ret;exact⟨by rw[e.out];rfl,rfl⟩
def oldF (beat time:Int):Bool:=decide (beat<time/\50<time - beat)
structure Mb where
  who:Int
  beat:Int
  has:Bool
instance:Inhabited Mb:=⟨⟨0,0,false⟩⟩
instance:Cel Mb where
  k:=3
  cs x:= [.int .i64 x.who,.int .i64 x.beat,.bool x.has]
  len _:=rfl
  one x u hu:=by simp at hu;rcases hu with rfl|rfl|rfl<;>rfl
def Qfl (time:Int) (x:Mb):Bool:=x.has&&oldF x.beat time
def Qlw (L:List Mb):Prop:=∀(i j:Nat) (hi:i<L.length) (hj:j<L.length),j<=i->L[i].has=true->L[j].has=true
theorem Qik {L:List Mb} (h:Qlw L) {n:Nat} (hn:n<L.length) (hh:L[n].has=true):(L.take n).filter Mb.has=L.take n:=by
 rw[List.filter_eq_self];intro x hx;obtain⟨j,hj,rfl⟩:=List.mem_iff_getElem.1 hx;have hj' :j<n:=by simp at hj;omega
 rw[List.getElem_take];exact h n j hn (by omega) (by omega) hh
def Qc5 (L:List Mb):List Int:=(L.filter Mb.has).map Mb.beat
section
variable {α:Type} [Cel α]
end
def mbs (m b:List Int):List Mb:=(List.range m.length).map fun i=>⟨m.getD i 0,b.getD i 0,decide (i<b.length)⟩
theorem Qb2 (m b:List Int):(mbs m b).length=m.length:=by simp[mbs]
theorem Qkx {m b:List Int} {n:Nat} (h:n<m.length) (h' :n<(mbs m b).length):(mbs m b)[n]=⟨m[n],b.getD n 0,decide (n<b.length)⟩:=by simp[mbs,h]
def Qsq:Mb:=⟨0,0,false⟩
def laid (m b:List Int) (n:Nat):List Mb:=(mbs m b).take n++List.replicate (m.length - n) Qsq
def Qd6 (m b:List Int):List Int:=b.drop m.length
section
variable {P:Program} {ops:Array Oper} {Q:Exit->Act->World->Prop} {md:Region.Mode} {S:World->Prop} {z:Nat}
def Qf7 (md:Region.Mode) (ops:Array Oper) (z i:Nat):Bool:=
  match ops[z]? with
  |none=>false
  |some o=>o.after.any fun e=>Region.binds md e&&e.on==i
theorem Qml {i:Nat} {L:Array Bool} (hz:Qf7 md ops z i=true) (hi:i∈Region.ready md ops L):z∉Region.ready md ops L:=fun h=>by
 obtain⟨hu,oi,hoi,_⟩:=mem_ready.1 hi;obtain⟨_,oz,hoz,hall⟩:=mem_ready.1 h;simp only[Qf7,hoz]at hz;obtain⟨e,he,hb⟩:=Array.any_eq_true'.1 hz;simp only[Bool.and_eq_true,beq_iff_eq]at hb;have h2:=hall e he hb.1;rw[hb.2]at h2;rcases Nat.lt_or_ge i L.size with h' |h'
 . simp[h']at hu h2;rw[hu]at h2;cases h2
 . simp[Array.getElem?_eq_none h']at h2
theorem Qj4 (L:Array Bool) (z:Nat):(L.setIfInBounds z true).getD z true=true:=by
 by_cases h:z<L.size
 . simp[h]
 . simp[h]
def Qch (P:Program) (md:Region.Mode) (ops:Array Oper) (Q:Exit->Act->World->Prop) (S:World->Prop) (z:Nat):Nat->Array Bool->Act->World->Prop
  |0,L,a,w=>Region.ready md ops L= []/\Q .normal a w
  |n+1,L,a,w=>(Region.ready md ops L= []->Q .normal a w)/\
    ∀i∈Region.ready md ops L,wpOp P ops Q i (fun a' w' =>((L.setIfInBounds i true).getD z true=true∨S w')/\Qch P md ops Q S z n (L.setIfInBounds i true) a' w') a w
theorem Qld (n:Nat):∀(L:Array Bool) (a:Act) (w:World),Qch P md ops Q S z n L a w->wpAny P md ops Q n L a w:=by
 induction n with
 |zero=>exact fun _ _ _ h=>h
 |succ n ih=>exact fun L a w h=>⟨h.1,fun i hi=>wpOp_mono (fun a' w' g=>ih _ a' w' g.2) (h.2 i hi)⟩
theorem Qnd {i:Nat} {oi:Oper} {v:Value} (hz:Qf7 md ops z i=true) (hi:ops[i]? =some oi) (hs:Region.noSelect ops=true) (hQ:∀c a w,Q (.panic c) (a.put oi.dst v) w->Q (.panic c) a w) (hiz:i≠z) (n:Nat):
 ∀(L:Array Bool) (a:Act) (w:World),L.getD z true=false->Region.free md ops L i=true->i∈Region.ready md ops L->YieldsIf P ops S oi v a->S w->
  Qch P md ops Q S z n (L.setIfInBounds i true) (a.put oi.dst v) w->Qch P md ops Q S z (n+1) L a w:=by
 have sel:∀(j:Nat) (o:Oper) cs b,ops[j]? =some o->o.op≠ .select cs b:=Region.noSelect_spec hs
 suffices key:∀(L:Array Bool) (a:Act) (w:World),L.getD z true=false->(∀j oj,ops[j]? =some oj->j≠i->L.getD j true=false->(∀e∈oj.after,Region.binds md e=true->e.on≠i)->oi.apart ops oj=true)->
  i∈Region.ready md ops L->YieldsIf P ops S oi v a->S w->Qch P md ops Q S z n (L.setIfInBounds i true) (a.put oi.dst v) w->Qch P md ops Q S z (n+1) L a w from
  fun L a w h0 hf hr hy hS H=>key L a w h0 (Region.free_spec hi hf) hr hy hS H
 induction n with
 |zero=>
  intro L a w _ _ hr hy hS H
  constructor
  . intro h;rw[h]at hr;exact absurd hr (List.not_mem_nil)
  . intro j hj;rcases Decidable.em (j=i)with e|e
    . subst e;exact hy.wpOp hi hS ⟨.inr hS,H⟩
    . have g:=ready_mono hj e;rw[H.1]at g;exact absurd g (List.not_mem_nil)
 |succ n ih=>
  intro L a w hL hfr hr hy hS H
  constructor
  . intro h;rw[h]at hr;exact absurd hr (List.not_mem_nil)
  . intro j hj;rcases Decidable.em (j=i)with e|e
    . subst e;exact hy.wpOp hi hS ⟨.inr hS,H⟩
    . obtain⟨hun,oj,hoj,hwait⟩:=mem_ready.1 hj;have hjz:j≠z:=fun h=>by subst h;exact Qml hz hr hj
      have iun:=(mem_ready.1 hr).1;have hno:∀d∈oj.after,Region.binds md d=true->d.on≠i:=fun d hd hb q=>by
       have g:=hwait d hd hb;rw[q]at g;rcases Nat.lt_or_ge i L.size with k|k
       . simp[k]at iun g;rw[iun]at g;cases g
       . simp[Array.getElem?_eq_none k]at g
      have step:=wpOp_putIf hoj (hfr j oj hoj e hun hno) (fun cs b=>sel i oi cs b hi) (fun cs b=>sel j oj cs b hoj) hQ hy (H.2 j (ready_mono hj e));refine wpOp_mono (fun a' w' g=> ?_) step;have hL2:(L.setIfInBounds j true).getD z true=false:=(by rw[getD_set_ne true hjz];exact hL);have hS' :S w' :=g.2.1.resolve_left (by rw[getD_set_ne true hjz,getD_set_ne true hiz,hL];decide);refine⟨.inr hS',ih _ a' w' hL2 (fun k ok hk hki hu hn=> ?_) (ready_mono hr (Ne.symm e)) g.1 hS' ?_⟩
      . refine hfr k ok hk hki ?_ hn;rcases Decidable.em (j=k)with q|q
        . subst q;exact hun
        . rwa [getD_set_ne true q]at hu
      . have:=g.2.2;rwa [Array.setIfInBounds_comm _ _ (Ne.symm e)]at this
theorem Qne {i:Nat} {oi:Oper} {v:Value} (hi:ops[i]? =some oi) (hs:Region.noSelect ops=true) (hQ:∀c a w,Q (.panic c) (a.put oi.dst v) w->Q (.panic c) a w) (hiz:i≠z) (n:Nat):
 ∀(L:Array Bool) (a:Act) (w:World),Region.free md ops L i=true->i∈Region.ready md ops L->YieldsIf P ops (fun _=>True) oi v a->(L.getD z true=true∨S w)->
  Qch P md ops Q S z n (L.setIfInBounds i true) (a.put oi.dst v) w->Qch P md ops Q S z (n+1) L a w:=by
 have sel:∀(j:Nat) (o:Oper) cs b,ops[j]? =some o->o.op≠ .select cs b:=Region.noSelect_spec hs
 suffices key:∀(L:Array Bool) (a:Act) (w:World),(∀j oj,ops[j]? =some oj->j≠i->L.getD j true=false->(∀e∈oj.after,Region.binds md e=true->e.on≠i)->oi.apart ops oj=true)->
  i∈Region.ready md ops L->YieldsIf P ops (fun _=>True) oi v a->(L.getD z true=true∨S w)->Qch P md ops Q S z n (L.setIfInBounds i true) (a.put oi.dst v) w->Qch P md ops Q S z (n+1) L a w from
  fun L a w hf hr hy hS H=>key L a w (Region.free_spec hi hf) hr hy hS H
 induction n with
 |zero=>
  intro L a w _ hr hy hS H
  constructor
  . intro h;rw[h]at hr;exact absurd hr (List.not_mem_nil)
  . intro j hj;rcases Decidable.em (j=i)with e|e
    . subst e;exact hy.wpOp hi trivial ⟨by rw[getD_set_ne true hiz];exact hS,H⟩
    . have g:=ready_mono hj e;rw[H.1]at g;exact absurd g (List.not_mem_nil)
 |succ n ih=>
  intro L a w hfr hr hy hS H
  constructor
  . intro h;rw[h]at hr;exact absurd hr (List.not_mem_nil)
  . intro j hj;rcases Decidable.em (j=i)with e|e
    . subst e;exact hy.wpOp hi trivial ⟨by rw[getD_set_ne true hiz];exact hS,H⟩
    . obtain⟨hun,oj,hoj,hwait⟩:=mem_ready.1 hj;have iun:=(mem_ready.1 hr).1;have hno:∀d∈oj.after,Region.binds md d=true->d.on≠i:=fun d hd hb q=>by
       have g:=hwait d hd hb;rw[q]at g;rcases Nat.lt_or_ge i L.size with k|k
       . simp[k]at iun g;rw[iun]at g;cases g
       . simp[Array.getElem?_eq_none k]at g
      have step:=wpOp_putIf hoj (hfr j oj hoj e hun hno) (fun cs b=>sel i oi cs b hi) (fun cs b=>sel j oj cs b hoj) hQ hy (H.2 j (ready_mono hj e));refine wpOp_mono (fun a' w' g=> ?_) step;have hc:(L.setIfInBounds j true).getD z true=true∨S w' :=by
       rcases Decidable.em (j=z)with q|q
       . subst q;exact .inl (Qj4 _ _)
       . have:=g.2.1;rw[getD_set_ne true q,getD_set_ne true hiz]at this;rw[getD_set_ne true q];exact this
      refine⟨hc,ih _ a' w' (fun k ok hk hki hu hn=> ?_) (ready_mono hr (Ne.symm e)) g.1 hc ?_⟩
      . refine hfr k ok hk hki ?_ hn;rcases Decidable.em (j=k)with q|q
        . subst q;exact hun
        . rwa [getD_set_ne true q]at hu
      . have:=g.2.2;rwa [Array.setIfInBounds_comm _ _ (Ne.symm e)]at this
theorem Qa6 {i:Nat} {oi:Oper} {v:Value} {n:Nat} {L:Array Bool} {a:Act} {w:World} (hz:Qf7 md ops z i=true) (hi:ops[i]? =some oi) (hs:Region.noSelect ops=true) (hiz:i≠z) (h0:L.getD z true=false)
 (hf:Region.free md ops L i=true) (hr:(Region.ready md ops L).contains i=true) (hQ:∀c a w,Q (.panic c) (a.put oi.dst v) w->Q (.panic c) a w) (hy:YieldsIf P ops S oi v a) (hS:S w)
 (h:Qch P md ops Q S z n (L.setIfInBounds i true) (a.put oi.dst v) w):Qch P md ops Q S z (n+1) L a w:=
 Qnd hz hi hs hQ hiz n L a w h0 hf (by simpa using hr) hy hS h
theorem Qhu {i:Nat} {oi:Oper} {v:Value} {n:Nat} {L:Array Bool} {a:Act} {w:World} (hi:ops[i]? =some oi) (hs:Region.noSelect ops=true) (hiz:i≠z)
 (hf:Region.free md ops L i=true) (hr:(Region.ready md ops L).contains i=true) (hQ:∀c a w,Q (.panic c) (a.put oi.dst v) w->Q (.panic c) a w) (hy:YieldsIf P ops (fun _=>True) oi v a) (hS:S w)
 (h:Qch P md ops Q S z n (L.setIfInBounds i true) (a.put oi.dst v) w):Qch P md ops Q S z (n+1) L a w:=
 Qne hi hs hQ hiz n L a w hf (by simpa using hr) hy (.inr hS) h
theorem Qcc {i:Nat} {o:Oper} {n:Nat} {L:Array Bool} {a:Act} {w:World} (hr:Region.ready md ops L= [i]) (ho:ops[i]? =some o)
 (h:∀K' :Act->World->Prop,Shut (∀a w,(i=z∨S w)->Qch P md ops Q S z n (L.setIfInBounds i true) a w->K' a w)->if Region.wanted o (yielded ops a.tmps)=true then Oper.wp P o a w K' Q else K' (a.put o.dst undef) w):
 Qch P md ops Q S z (n+1) L a w:=by
 refine⟨fun h0=>(by rw[hr]at h0;cases h0),fun j hj=> ?_⟩;rw[hr]at hj;obtain rfl:j=i:=by simpa using hj
 exact wpOp_step ho (fun K' hK=>h K' (fun a w h1 h2=>hK a w ⟨h1.imp (fun e=>by subst e;exact Qj4 _ _) id,h2⟩))
theorem Qgk {L:Array Bool} {a:Act} {w:World} (hr:Region.ready md ops L= []) (h:Q .normal a w):∀n,Qch P md ops Q S z n L a w
 |0=>⟨hr,h⟩
 |n+1=>⟨fun _=>h,fun i hi=>by rw[hr]at hi;exact absurd hi List.not_mem_nil⟩
theorem Qe2 {id:Nat} {a:Act} {w:World} (z:Nat) (S:World->Prop) (hm:P.follows .mixedOrders=true) (h:Qch P .any ops Q S z ops.size (Array.replicate ops.size false) a w.drew):(Code.region id ops true).wp P Q a w:=
 wp_region_any hm (Qld _ _ _ _ h)
end
theorem Qb4 {F:List Nat} {w W:World} (h:Off F w W) (b i:Nat) (v:Value) (hb:b∈F):Off F w (W.setCell ⟨b,i,none⟩ v):=
 ⟨h.os,h.tape,h.output,by simpa using h.size,fun k hk hn=>(Below.heap_setCell W ⟨b,i,none⟩ v k (fun e=>hn (e▸hb))).trans (h.block k hk hn)⟩
def Qd0 (time:Int) (L:List Mb):List Mb:=L.filter fun x=> !Qfl time x
theorem Qqi (time:Int) (L:List Mb):(Qd0 time L).length<=L.length:=List.length_filter_le _ _
def Gp (w:World) (a1 a2 a3:Option Addr) (m b o:List Int) (F:List Nat):Prop:=
  ∃F1 F2 F3,F=F1++(F2++F3)/\Sl w a1 m F1/\Sl w a2 b F2/\Sl w a3 o F3/\F.Nodup
theorem Gp.off {F G:List Nat} {w w1:World} {a1 a2 a3:Option Addr} {m b o:List Int} (h:Gp w a1 a2 a3 m b o F) (k:Off G w w1) (hd:∀x∈F,x∉G):Gp w1 a1 a2 a3 m b o F:=by
 obtain⟨F1,F2,F3,rfl,s1,s2,s3,hn⟩:=h;exact⟨F1,F2,F3,rfl,s1.off k fun x hx=>hd x (by simp[hx]),s2.off k fun x hx=>hd x (by simp[hx]),s3.off k fun x hx=>hd x (by simp[hx]),hn⟩
theorem Gp.below {F:List Nat} {w w1:World} {a1 a2 a3:Option Addr} {m b o:List Int} (h:Gp w a1 a2 a3 m b o F) (k:Below w.heap.size w w1):Gp w1 a1 a2 a3 m b o F:=h.off (Off.of_below k) (by simp)
theorem Gp.alloc {F:List Nat} {w:World} {a1 a2 a3:Option Addr} {m b o:List Int} (h:Gp w a1 a2 a3 m b o F) (ob:Obj):Gp (w.alloc ob) a1 a2 a3 m b o F:=h.below (Qad (Below.refl _ _) _)
theorem Gp.lt {F:List Nat} {w:World} {a1 a2 a3:Option Addr} {m b o:List Int} (h:Gp w a1 a2 a3 m b o F):∀x∈F,x<w.heap.size:=by
 obtain⟨F1,F2,F3,rfl,s1,s2,s3,hn⟩:=h;intro x hx;simp only[List.mem_append]at hx;rcases hx with h|h|h
 . exact s1.lt x h
 . exact s2.lt x h
 . exact s3.lt x h
theorem Gp.at1 {F:List Nat} {w:World} {a1 a2 a3:Option Addr} {m b o:List Int} (h:Gp w a1 a2 a3 m b o F):At w a1 m:=by obtain⟨_,_,_,_,s,_⟩:=h;exact s.at
theorem Gp.at2 {F:List Nat} {w:World} {a1 a2 a3:Option Addr} {m b o:List Int} (h:Gp w a1 a2 a3 m b o F):At w a2 b:=by obtain⟨_,_,_,_,_,s,_⟩:=h;exact s.at
theorem Gp.at3 {F:List Nat} {w:World} {a1 a2 a3:Option Addr} {m b o:List Int} (h:Gp w a1 a2 a3 m b o F):At w a3 o:=by obtain⟨_,_,_,_,_,_,s,_⟩:=h;exact s.at
structure Wi (w W:World) (gen:Int) (vm vb vo:Value):Prop where
  bl:Below w.heap.size w W
  g:Blk W w.heap.size 143 #[.int .i64 gen,vm,vb,vo]
  r:Blk W (w.heap.size+1) 143 Qcu
theorem Wi.below {w W W' :World} {gen:Int} {vm vb vo:Value} (h:Wi w W gen vm vb vo) (k:Below W.heap.size W W'):Wi w W' gen vm vb vo:=⟨via0 k h.bl,h.g.below k h.g.lt,h.r.below k h.r.lt⟩
theorem Wi.alloc {w W:World} {gen:Int} {vm vb vo:Value} (h:Wi w W gen vm vb vo) (ob:Obj):Wi w (W.alloc ob) gen vm vb vo:=h.below (Qad (Below.refl _ _) _)
theorem Qdb {B:Nat} {W:World} {v:Value} {t t' :TypeId} {k n p:Nat} {xs:List Value} {vs:Array Value} (h:W.ownsRow B t k v n xs) (hp:Blk W p t' vs) (ht:t≠t'):∀x,v.ownBlock=some x->x≠p:=by
 intro x hx e;subst e;rcases h.2 with⟨rfl,rfl⟩|⟨g,c,cur,rfl,hB,hg,_⟩
 . cases hx
 . have:g=x:=(by simpa [Value.ownBlock]using hx);subst this;have h2:W.heap[g]? =_:=hp;rw[h2]at hg;cases hg;exact ht rfl
theorem Qnr {W:World} {a:Option Addr} {l:List Int} {F:List Nat} (h:Sl W a l F) (n c:Nat):∀x∈F,(Value.slice a n c).ownBlock=some x:=by
 rcases h with⟨_,rfl⟩|⟨b,o,rfl,rfl,_⟩
 . simp
 . simp[Value.ownBlock]
abbrev putG (Y:World) (p:Nat) (g v1 v2 v3:Value):World:=(((Y.setCell ⟨p,0,none⟩ g).setCell ⟨p,1,none⟩ v1).setCell ⟨p,2,none⟩ v2).setCell ⟨p,3,none⟩ v3
theorem Qc3 (Y:World) (p:Nat) (g v1 v2 v3:Value):Off [p] Y (putG Y p g v1 v2 v3):=Qb4 (Qb4 (Qb4 (Qb4 (Off.refl _ _) p 0 _ (by simp)) p 1 _ (by simp)) p 2 _ (by simp)) p 3 _ (by simp)
theorem Qq4 {Y:World} {p:Nat} {t:TypeId} {x0 x1 x2 x3:Value} (h:Blk Y p t #[x0,x1,x2,x3]) (g v1 v2 v3:Value):Blk (putG Y p g v1 v2 v3) p t #[g,v1,v2,v3]:=(((h.setAt 0 g).setAt 1 v1).setAt 2 v2).setAt 3 v3
theorem Wi.off {w W W' :World} {gen:Int} {vm vb vo:Value} {p:Nat} (h:Wi w W gen vm vb vo) (k:Off [p] W W') (hp:w.heap.size+1<p):Wi w W' gen vm vb vo:=
 ⟨h.bl.trans (k.toBelow (by simp;omega) h.bl.size),h.g.off k (by simp;omega),h.r.off k (by simp;omega)⟩
def Qiv (w w' :World) (e:Ending) (gen:Int) (m b o:List Int):Prop:=
  ∃(a1 a2 a3:Option Addr) (c1 c2 c3:Nat) (F:List Nat),e= .returned (.agg (Qak gen a1 m.length c1 a2 b.length c2 a3 o.length c3))/\Below w.heap.size w w' /\Gp w' a1 a2 a3 m b o F/\∀x∈F,w.heap.size<=x
def Dis (v u:Value):Prop:=∀x,v.ownBlock=some x->u.ownBlock≠some x
theorem Dis.symm {v u:Value} (h:Dis v u):Dis u v:=fun x hx hy=>h x hy hx
structure Tri (q:Nat) (W:World) (v1 v2 v3:Value) (l1 l2 l3:List Int):Prop where
  o1:W.ownsRow q 3 1 v1 l1.length (flat l1)
  o2:W.ownsRow q 3 1 v2 l2.length (flat l2)
  o3:W.ownsRow q 3 1 v3 l3.length (flat l3)
  d12:Dis v1 v2
  d13:Dis v1 v3
  d23:Dis v2 v3
  q:q<=W.heap.size
theorem Tri.nil (q:Nat) (W:World) (hq:q<=W.heap.size):Tri q W (.slice none 0 0) (.slice none 0 0) (.slice none 0 0) [] [] []:=
 ⟨World.ownsRow_nil _ _ _ _,World.ownsRow_nil _ _ _ _,World.ownsRow_nil _ _ _ _,(fun x h=>by cases h),(fun x h=>by cases h),(fun x h=>by cases h),hq⟩
section
variable {q:Nat} {W:World} {v1 v2 v3:Value} {l1 l2 l3:List Int}
theorem Tri.s12 (h:Tri q W v1 v2 v3 l1 l2 l3):Tri q W v2 v1 v3 l2 l1 l3:=⟨h.o2,h.o1,h.o3,h.d12.symm,h.d23,h.d13,h.q⟩
theorem Tri.s13 (h:Tri q W v1 v2 v3 l1 l2 l3):Tri q W v3 v2 v1 l3 l2 l1:=⟨h.o3,h.o2,h.o1,h.d23.symm,h.d13.symm,h.d12.symm,h.q⟩
theorem Tri.new1 {g:Nat} (h:Tri q W (.slice none 0 0) v2 v3 [] l2 l3) (hg:W.heap.size=g):Tri q (W.alloc (.cells #[] 3)) (.slice (some ⟨g,0,none⟩) 0 0) v2 v3 [] l2 l3:=by
 subst hg;refine⟨World.ownsRow_made W #[] 0 h.q (by simp[maxLen]) rfl,Qau h.o2 _,Qau h.o3 _,fun x hx hy=> ?_,fun x hx hy=> ?_,h.d23,by have:=h.q;simp;omega⟩
 . cases hx;exact Nat.lt_irrefl _ (Qcn h.o2 hy)
 . cases hx;exact Nat.lt_irrefl _ (Qcn h.o3 hy)
theorem Tri.new2 {g:Nat} (h:Tri q W v1 (.slice none 0 0) v3 l1 [] l3) (hg:W.heap.size=g):Tri q (W.alloc (.cells #[] 3)) v1 (.slice (some ⟨g,0,none⟩) 0 0) v3 l1 [] l3:=(h.s12.new1 hg).s12
theorem Tri.new3 {g:Nat} (h:Tri q W v1 v2 (.slice none 0 0) l1 l2 []) (hg:W.heap.size=g):Tri q (W.alloc (.cells #[] 3)) v1 v2 (.slice (some ⟨g,0,none⟩) 0 0) l1 l2 []:=(h.s13.new1 hg).s13
theorem Qes {B:Nat} {W W' :World} {v:Value} {t:TypeId} {k n:Nat} {xs:List Value} {row:Option Nat} (h:W.ownsRow B t k v n xs) (hg:W.grownBy W' row) (hne:∀x,v.ownBlock=some x->some x≠row):W'.ownsRow B t k v n xs:=by
 refine⟨h.1,?_⟩;rcases h.2 with⟨rfl,rfl⟩|⟨g,c,cur,rfl,hB,hb,hc,hm,hsz,ht⟩
 . exact .inl ⟨rfl,rfl⟩
 . exact .inr ⟨g,c,cur,rfl,hB,Blk.kept (show Blk W g t cur from hb) hg (hne g rfl),hc,hm,hsz,ht⟩
theorem Tri.app1 {A:Option Addr} {cap:Nat} {m:List Int} (h:Tri q W v1 v2 v3 [] l2 l3) (hA:At W A m) (hm:m.length<=1048576):
 ∃a c w',(Builtin.append_ #[63,63] 63 #[v1,.slice A m.length cap]).run Tryz.prog W= .ok (.slice a m.length c) w' /\Tri q w' (.slice a m.length c) v2 v3 m l2 l3/\(∀p t vs,t≠3->Blk W p t vs->Blk w' p t vs)/\Below q W w' :=by
 obtain⟨v,w1,hr,hown,hgrow,hat⟩:=Qbj (P:=Tryz.prog) Tryz.underlying63 Qec rfl (by decide) (by decide) q v1 ([]:List Int) m A cap W h.q h.o1 hA (by simp;omega);simp only[List.length_nil,Nat.zero_add,List.nil_append]at hown;obtain⟨a,c,rfl,_⟩:=Qao hown;refine⟨a,c,w1,hr,⟨hown,Qes h.o2 hgrow (fun x hx e=>h.d12 x e.symm hx),Qes h.o3 hgrow (fun x hx e=>h.d13 x e.symm hx),fun x hx hy=> ?_,fun x hx hy=> ?_,h.d23,Nat.le_trans h.q hgrow.size⟩,fun p t vs ht hp=>hp.kept hgrow (fun e=>Qdb h.o1 hp (Ne.symm ht) p e.symm rfl),?_⟩
 . rcases hat with e|e
   . exact h.d12 x (e▸hx) hy
   . rw[e]at hx;cases hx;exact Nat.lt_irrefl _ (Qcn h.o2 hy)
 . rcases hat with e|e
   . exact h.d13 x (e▸hx) hy
   . rw[e]at hx;cases hx;exact Nat.lt_irrefl _ (Qcn h.o3 hy)
 . exact(Below.refl _ W).grown hgrow h.q (fun k e=>(h.o1.lt k e).1)
theorem Tri.app2 {A:Option Addr} {cap:Nat} {m:List Int} (h:Tri q W v1 v2 v3 l1 [] l3) (hA:At W A m) (hm:m.length<=1048576):
 ∃a c w',(Builtin.append_ #[63,63] 63 #[v2,.slice A m.length cap]).run Tryz.prog W= .ok (.slice a m.length c) w' /\Tri q w' v1 (.slice a m.length c) v3 l1 m l3/\(∀p t vs,t≠3->Blk W p t vs->Blk w' p t vs)/\Below q W w' :=by
 obtain⟨a,c,w',h1,h2,h3⟩:=h.s12.app1 (cap:=cap) hA hm;exact⟨a,c,w',h1,h2.s12,h3⟩
theorem Tri.app3 {A:Option Addr} {cap:Nat} {m:List Int} (h:Tri q W v1 v2 v3 l1 l2 []) (hA:At W A m) (hm:m.length<=1048576):
 ∃a c w',(Builtin.append_ #[63,63] 63 #[v3,.slice A m.length cap]).run Tryz.prog W= .ok (.slice a m.length c) w' /\Tri q w' v1 v2 (.slice a m.length c) l1 l2 m/\(∀p t vs,t≠3->Blk W p t vs->Blk w' p t vs)/\Below q W w' :=by
 obtain⟨a,c,w',h1,h2,h3⟩:=h.s13.app1 (cap:=cap) hA hm;exact⟨a,c,w',h1,h2.s13,h3⟩
theorem Tri.gp {a1 a2 a3:Option Addr} {c1 c2 c3 p:Nat} {vs:Array Value} (h:Tri q W (.slice a1 l1.length c1) (.slice a2 l2.length c2) (.slice a3 l3.length c3) l1 l2 l3) (hp:Blk W p 143 vs):∃F,Gp W a1 a2 a3 l1 l2 l3 F/\∀x∈F,q<=x/\x≠p:=by
 obtain⟨_,F1,s1,k1⟩:=Sl.of_fresh (Qcy (α:=Int) rfl h.o1);obtain⟨_,F2,s2,k2⟩:=Sl.of_fresh (Qcy (α:=Int) rfl h.o2);obtain⟨_,F3,s3,k3⟩:=Sl.of_fresh (Qcy (α:=Int) rfl h.o3);have u1:=Qnr s1 l1.length c1;have u2:=Qnr s2 l2.length c2;have u3:=Qnr s3 l3.length c3;refine⟨F1++(F2++F3),⟨F1,F2,F3,rfl,s1,s2,s3,?_⟩,?_⟩
 . rw[List.nodup_append,List.nodup_append];refine⟨s1.nodup,⟨s2.nodup,s3.nodup,fun x hx y hy e=> ?_⟩,fun x hx y hy e=> ?_⟩
   . subst e;exact h.d23 x (u2 x hx) (u3 x hy)
   . subst e;rcases List.mem_append.1 hy with hy|hy
     . exact h.d12 x (u1 x hx) (u2 x hy)
     . exact h.d13 x (u1 x hx) (u3 x hy)
 . intro x hx;simp only[List.mem_append]at hx;rcases hx with e|e|e
   . exact⟨k1 x e,Qdb h.o1 hp (by decide) x (u1 x e)⟩
   . exact⟨k2 x e,Qdb h.o2 hp (by decide) x (u2 x e)⟩
   . exact⟨k3 x e,Qdb h.o3 hp (by decide) x (u3 x e)⟩
end
theorem Wi.s4 {w W:World} {gen:Int} {vm vb vo:Value} (h:Wi w W gen vm vb vo):W.cell? ⟨w.heap.size,0,none⟩=some (.int .i64 gen)/\W.cell? ⟨w.heap.size,1,none⟩=some vm/\W.cell? ⟨w.heap.size,2,none⟩=some vb/\W.cell? ⟨w.heap.size,3,none⟩=some vo:=h.g.row4
theorem Wi.kept {w W W' :World} {gen:Int} {vm vb vo:Value} (h:Wi w W gen vm vb vo) (k:∀p t vs,t≠3->Blk W p t vs->Blk W' p t vs) (hb:Below (w.heap.size+2) W W'):Wi w W' gen vm vb vo:=
 ⟨h.bl.trans ⟨hb.os,hb.tape,hb.output,hb.size,fun i hi=>hb.block i (by omega)⟩,k _ _ _ (by decide) h.g,k _ _ _ (by decide) h.r⟩
theorem Qf9 {B:Nat} {W:World} {a:Option Addr} {n c:Nat} {t:TypeId} {k:Nat} {xs:List Value} (h:W.ownsRow B t k (.slice a n c) n xs):n<=c/\c<=9223372036854775807:=by
 rcases h.2 with⟨e,rfl⟩|⟨g,c',cur,e,hB,hb,hc,hm,_⟩
 . cases e;exact⟨Nat.le_refl _,by decide⟩
 . cases e;simp[maxLen]at hm;exact⟨hc,by omega⟩
def ToldC (w w' :World) (e:Ending) (gen:Int) (m b o:List Int):Prop:=
  ∃(a1 a2 a3:Option Addr) (c1 c2 c3:Nat) (F:List Nat),e= .returned (.agg (Qak gen a1 m.length c1 a2 b.length c2 a3 o.length c3))/\Below w.heap.size w w' /\Gp w' a1 a2 a3 m b o F/\(∀x∈F,w.heap.size<=x)/\(m.length<=c1/\c1<=9223372036854775807)/\(b.length<=c2/\c2<=9223372036854775807)
theorem ToldC.g {w w' :World} {e:Ending} {gen:Int} {m b o:List Int} (h:ToldC w w' e gen m b o):Qiv w w' e gen m b o:=by
 obtain⟨a1,a2,a3,c1,c2,c3,F,h1,h2,h3,h4,_⟩:=h;exact⟨a1,a2,a3,c1,c2,c3,F,h1,h2,h3,h4⟩
theorem Tri.told {w W:World} {gen:Int} {vm vb vo:Value} {a1 a2 a3:Option Addr} {c1 c2 c3:Nat} {m b o:List Int} (T:Tri (w.heap.size+2) W (.slice a1 m.length c1) (.slice a2 b.length c2) (.slice a3 o.length c3) m b o) (I:Wi w W gen vm vb vo):
 ToldC w (putG W (w.heap.size+1) (.int .i64 gen) (.slice a1 m.length c1) (.slice a2 b.length c2) (.slice a3 o.length c3)) (.returned (.agg (Qak gen a1 m.length c1 a2 b.length c2 a3 o.length c3))) gen m b o:=by
 obtain⟨F,hG,hF⟩:=T.gp I.r;exact⟨a1,a2,a3,c1,c2,c3,F,rfl,I.bl.trans ((Qc3 W (w.heap.size+1) _ _ _ _).toBelow (by simp) I.bl.size),hG.off (Qc3 W (w.heap.size+1) _ _ _ _) (fun x hx=>by simpa using (hF x hx).2),fun x hx=>by have:=(hF x hx).1;omega,Qf9 T.o1,Qf9 T.o2⟩
theorem Qdp (gen:Int) (A B C:Option Addr) (ca cb cc:Nat) (m b o:List Int) (hm:m.length<=1048576) (hb:b.length<=1048576) (ho:o.length<=1048576) (w:World) (hA:At w A m) (hB:At w B b) (hC:At w C o):
 Calls Tryz.prog 108 #[.agg (Qak gen A m.length ca B b.length cb C o.length cc)] w fun e w' =>ToldC w w' e gen m b o:=by
 have HA:=hidP hA;have HB:=hidP hB;have HC:=hidP hC;clear hA hB hC;go_enter Tryz.func108,Tryz.ntmps108;go_wp2_with fail;have I:Wi w ((w.alloc (.cells (Qak gen A m.length ca B b.length cb C o.length cc) 143)).alloc (.cells Qcu 143)).drew gen (.slice A m.length ca) (.slice B b.length cb) (.slice C o.length cc):=⟨by repeat(first|exact Below.refl _ _|assumption|refine via0 (by assumption) ?_|refine Below.drew ?_|refine Qad ?_ _),(Blk.new w 143 (Qak gen A m.length ca B b.length cb C o.length cc)).alloc _,by have:=Blk.new (w.alloc (.cells (Qak gen A m.length ca B b.length cb C o.length cc) 143)) 143 Qcu;rw[World.size_alloc]at this;exact this⟩
 have T:=Tri.nil (w.heap.size+2) ((w.alloc (.cells (Qak gen A m.length ca B b.length cb C o.length cc) 143)).alloc (.cells Qcu 143)).drew (by simp);refine wp_region_noPanic ?_;refine wp_region_held_drew (S:=fun(w' :World)=>w'.cell? ⟨w.heap.size,0,none⟩=some (.int .i64 gen)/\w'.cell? ⟨w.heap.size,1,none⟩=some (.slice A m.length ca)/\w'.cell? ⟨w.heap.size,2,none⟩=some (.slice B b.length cb)/\w'.cell? ⟨w.heap.size,3,none⟩=some (.slice C o.length cc)) (by kernel_rfl) ?_ (fun hH=> ?_)
 . exact I.s4
 refine ztk [0,1,3,4,7,8,11,12] ?_;repeat(refine ztn (h:= ?_);try simp only[zX,zY])
 refine zte ?_;refine zR3 2 6 10 (fun K hK=> ?_) (fun K hK=> ?_) (fun K hK=> ?_)
 focus
  simp only[zG];go_simp;have T:=T.new1 (g:=w.heap.size+1+1) (by simp);have I:=I.alloc (.cells #[] 3);refine hK.out _ _ I.s4 fun hH=> ?_;clear hK K;try simp only[zX,zY]
  refine zR3 5 6 10 (fun K hK=> ?_) (fun K hK=> ?_) (fun K hK=> ?_)
  focus
   simp only[zG];obtain⟨x1,y1,w1,hr1,T',hk1,hb1⟩:=T.app1 (cap:=ca) (HA.out.below I.bl) hm;have T:=T';clear T';rw[if_pos (by rfl)];refine Qai _ _ _ (by rfl) _ _ _ (by rfl) (by rfl) hr1 ?_;have I:=I.kept hk1 hb1;clear hr1 hk1 hb1;refine hK.out _ _ I.s4 fun hH=> ?_;clear hK K;try simp only[zX,zY]
   refine zR2 6 10 (fun K hK=> ?_) (fun K hK=> ?_)
   focus
    simp only[zG];go_simp;have T:=T.new2 (g:=w1.heap.size) (by simp);have I:=I.alloc (.cells #[] 3);refine hK.out _ _ I.s4 fun hH=> ?_;clear hK K;try simp only[zX,zY]
    refine zR2 9 10 (fun K hK=> ?_) (fun K hK=> ?_)
    focus
     simp only[zG];obtain⟨x2,y2,w2,hr2,T',hk2,hb2⟩:=T.app2 (cap:=cb) (HB.out.below I.bl) hb;have T:=T';clear T';rw[if_pos (by rfl)];refine Qai _ _ _ (by rfl) _ _ _ (by rfl) (by rfl) hr2 ?_;have I:=I.kept hk2 hb2;clear hr2 hk2 hb2;refine hK.out _ _ I.s4 fun hH=> ?_;clear hK K;try simp only[zX,zY]
     refine zR1 10 (fun K hK=> ?_);simp only[zG];go_simp;have T:=T.new3 (g:=w2.heap.size) (by simp);have I:=I.alloc (.cells #[] 3)
    rotate_left
    focus
     simp only[zG];go_simp;have T:=T.new3 (g:=w1.heap.size+1) (by simp);have I:=I.alloc (.cells #[] 3);refine hK.out _ _ I.s4 fun hH=> ?_;clear hK K;try simp only[zX,zY]
     refine zR1 9 (fun K hK=> ?_);simp only[zG];obtain⟨x2,y2,w2,hr2,T',hk2,hb2⟩:=T.app2 (cap:=cb) (HB.out.below I.bl) hb;have T:=T';clear T';rw[if_pos (by rfl)];refine Qai _ _ _ (by rfl) _ _ _ (by rfl) (by rfl) hr2 ?_;have I:=I.kept hk2 hb2;clear hr2 hk2 hb2
   rotate_left 2
   focus
    simp only[zG];go_simp;have T:=T.new3 (g:=w1.heap.size) (by simp);have I:=I.alloc (.cells #[] 3);refine hK.out _ _ I.s4 fun hH=> ?_;clear hK K;try simp only[zX,zY]
    refine zR1 6 (fun K hK=> ?_);simp only[zG];go_simp;have T:=T.new2 (g:=w1.heap.size+1) (by simp);have I:=I.alloc (.cells #[] 3);refine hK.out _ _ I.s4 fun hH=> ?_;clear hK K;try simp only[zX,zY]
    refine zR1 9 (fun K hK=> ?_);simp only[zG];obtain⟨x2,y2,w2,hr2,T',hk2,hb2⟩:=T.app2 (cap:=cb) (HB.out.below I.bl) hb;have T:=T';clear T';rw[if_pos (by rfl)];refine Qai _ _ _ (by rfl) _ _ _ (by rfl) (by rfl) hr2 ?_;have I:=I.kept hk2 hb2;clear hr2 hk2 hb2
  rotate_left 3
  focus
   simp only[zG];go_simp;have T:=T.new2 (g:=w.heap.size+1+1+1) (by simp);have I:=I.alloc (.cells #[] 3);refine hK.out _ _ I.s4 fun hH=> ?_;clear hK K;try simp only[zX,zY]
   refine zR2 5 10 (fun K hK=> ?_) (fun K hK=> ?_)
   focus
    simp only[zG];obtain⟨x1,y1,w1,hr1,T',hk1,hb1⟩:=T.app1 (cap:=ca) (HA.out.below I.bl) hm;have T:=T';clear T';rw[if_pos (by rfl)];refine Qai _ _ _ (by rfl) _ _ _ (by rfl) (by rfl) hr1 ?_;have I:=I.kept hk1 hb1;clear hr1 hk1 hb1;refine hK.out _ _ I.s4 fun hH=> ?_;clear hK K;try simp only[zX,zY]
    refine zR2 9 10 (fun K hK=> ?_) (fun K hK=> ?_)
    focus
     simp only[zG];obtain⟨x2,y2,w2,hr2,T',hk2,hb2⟩:=T.app2 (cap:=cb) (HB.out.below I.bl) hb;have T:=T';clear T';rw[if_pos (by rfl)];refine Qai _ _ _ (by rfl) _ _ _ (by rfl) (by rfl) hr2 ?_;have I:=I.kept hk2 hb2;clear hr2 hk2 hb2;refine hK.out _ _ I.s4 fun hH=> ?_;clear hK K;try simp only[zX,zY]
     refine zR1 10 (fun K hK=> ?_);simp only[zG];go_simp;have T:=T.new3 (g:=w2.heap.size) (by simp);have I:=I.alloc (.cells #[] 3)
    rotate_left
    focus
     simp only[zG];go_simp;have T:=T.new3 (g:=w1.heap.size) (by simp);have I:=I.alloc (.cells #[] 3);refine hK.out _ _ I.s4 fun hH=> ?_;clear hK K;try simp only[zX,zY]
     refine zR1 9 (fun K hK=> ?_);simp only[zG];obtain⟨x2,y2,w2,hr2,T',hk2,hb2⟩:=T.app2 (cap:=cb) (HB.out.below I.bl) hb;have T:=T';clear T';rw[if_pos (by rfl)];refine Qai _ _ _ (by rfl) _ _ _ (by rfl) (by rfl) hr2 ?_;have I:=I.kept hk2 hb2;clear hr2 hk2 hb2
   rotate_left 2
   focus
    simp only[zG];go_simp;have T:=T.new3 (g:=w.heap.size+1+1+1+1) (by simp);have I:=I.alloc (.cells #[] 3);refine hK.out _ _ I.s4 fun hH=> ?_;clear hK K;try simp only[zX,zY]
    refine zR1 5 (fun K hK=> ?_);simp only[zG];obtain⟨x1,y1,w1,hr1,T',hk1,hb1⟩:=T.app1 (cap:=ca) (HA.out.below I.bl) hm;have T:=T';clear T';rw[if_pos (by rfl)];refine Qai _ _ _ (by rfl) _ _ _ (by rfl) (by rfl) hr1 ?_;have I:=I.kept hk1 hb1;clear hr1 hk1 hb1;refine hK.out _ _ I.s4 fun hH=> ?_;clear hK K;try simp only[zX,zY]
    refine zR1 9 (fun K hK=> ?_);simp only[zG];obtain⟨x2,y2,w2,hr2,T',hk2,hb2⟩:=T.app2 (cap:=cb) (HB.out.below I.bl) hb;have T:=T';clear T';rw[if_pos (by rfl)];refine Qai _ _ _ (by rfl) _ _ _ (by rfl) (by rfl) hr2 ?_;have I:=I.kept hk2 hb2;clear hr2 hk2 hb2
  rotate_left 3
  focus
   simp only[zG];go_simp;have T:=T.new3 (g:=w.heap.size+1+1+1) (by simp);have I:=I.alloc (.cells #[] 3);refine hK.out _ _ I.s4 fun hH=> ?_;clear hK K;try simp only[zX,zY]
   refine zR2 5 6 (fun K hK=> ?_) (fun K hK=> ?_)
   focus
    simp only[zG];obtain⟨x1,y1,w1,hr1,T',hk1,hb1⟩:=T.app1 (cap:=ca) (HA.out.below I.bl) hm;have T:=T';clear T';rw[if_pos (by rfl)];refine Qai _ _ _ (by rfl) _ _ _ (by rfl) (by rfl) hr1 ?_;have I:=I.kept hk1 hb1;clear hr1 hk1 hb1;refine hK.out _ _ I.s4 fun hH=> ?_;clear hK K;try simp only[zX,zY]
    refine zR1 6 (fun K hK=> ?_);simp only[zG];go_simp;have T:=T.new2 (g:=w1.heap.size) (by simp);have I:=I.alloc (.cells #[] 3);refine hK.out _ _ I.s4 fun hH=> ?_;clear hK K;try simp only[zX,zY]
    refine zR1 9 (fun K hK=> ?_);simp only[zG];obtain⟨x2,y2,w2,hr2,T',hk2,hb2⟩:=T.app2 (cap:=cb) (HB.out.below I.bl) hb;have T:=T';clear T';rw[if_pos (by rfl)];refine Qai _ _ _ (by rfl) _ _ _ (by rfl) (by rfl) hr2 ?_;have I:=I.kept hk2 hb2;clear hr2 hk2 hb2
   rotate_left
   focus
    simp only[zG];go_simp;have T:=T.new2 (g:=w.heap.size+1+1+1+1) (by simp);have I:=I.alloc (.cells #[] 3);refine hK.out _ _ I.s4 fun hH=> ?_;clear hK K;try simp only[zX,zY]
    refine zR1 5 (fun K hK=> ?_);simp only[zG];obtain⟨x1,y1,w1,hr1,T',hk1,hb1⟩:=T.app1 (cap:=ca) (HA.out.below I.bl) hm;have T:=T';clear T';rw[if_pos (by rfl)];refine Qai _ _ _ (by rfl) _ _ _ (by rfl) (by rfl) hr1 ?_;have I:=I.kept hk1 hb1;clear hr1 hk1 hb1;refine hK.out _ _ I.s4 fun hH=> ?_;clear hK K;try simp only[zX,zY]
    refine zR1 9 (fun K hK=> ?_);simp only[zG];obtain⟨x2,y2,w2,hr2,T',hk2,hb2⟩:=T.app2 (cap:=cb) (HB.out.below I.bl) hb;have T:=T';clear T';rw[if_pos (by rfl)];refine Qai _ _ _ (by rfl) _ _ _ (by rfl) (by rfl) hr2 ?_;have I:=I.kept hk2 hb2;clear hr2 hk2 hb2
 rotate_left 8
 focus
  simp only[zG];go_simp;have T:=T.new2 (g:=w.heap.size+1+1) (by simp);have I:=I.alloc (.cells #[] 3);refine hK.out _ _ I.s4 fun hH=> ?_;clear hK K;try simp only[zX,zY]
  refine zR2 2 10 (fun K hK=> ?_) (fun K hK=> ?_)
  focus
   simp only[zG];go_simp;have T:=T.new1 (g:=w.heap.size+1+1+1) (by simp);have I:=I.alloc (.cells #[] 3);refine hK.out _ _ I.s4 fun hH=> ?_;clear hK K;try simp only[zX,zY]
   refine zR2 5 10 (fun K hK=> ?_) (fun K hK=> ?_)
   focus
    simp only[zG];obtain⟨x1,y1,w1,hr1,T',hk1,hb1⟩:=T.app1 (cap:=ca) (HA.out.below I.bl) hm;have T:=T';clear T';rw[if_pos (by rfl)];refine Qai _ _ _ (by rfl) _ _ _ (by rfl) (by rfl) hr1 ?_;have I:=I.kept hk1 hb1;clear hr1 hk1 hb1;refine hK.out _ _ I.s4 fun hH=> ?_;clear hK K;try simp only[zX,zY]
    refine zR2 9 10 (fun K hK=> ?_) (fun K hK=> ?_)
    focus
     simp only[zG];obtain⟨x2,y2,w2,hr2,T',hk2,hb2⟩:=T.app2 (cap:=cb) (HB.out.below I.bl) hb;have T:=T';clear T';rw[if_pos (by rfl)];refine Qai _ _ _ (by rfl) _ _ _ (by rfl) (by rfl) hr2 ?_;have I:=I.kept hk2 hb2;clear hr2 hk2 hb2;refine hK.out _ _ I.s4 fun hH=> ?_;clear hK K;try simp only[zX,zY]
     refine zR1 10 (fun K hK=> ?_);simp only[zG];go_simp;have T:=T.new3 (g:=w2.heap.size) (by simp);have I:=I.alloc (.cells #[] 3)
    rotate_left
    focus
     simp only[zG];go_simp;have T:=T.new3 (g:=w1.heap.size) (by simp);have I:=I.alloc (.cells #[] 3);refine hK.out _ _ I.s4 fun hH=> ?_;clear hK K;try simp only[zX,zY]
     refine zR1 9 (fun K hK=> ?_);simp only[zG];obtain⟨x2,y2,w2,hr2,T',hk2,hb2⟩:=T.app2 (cap:=cb) (HB.out.below I.bl) hb;have T:=T';clear T';rw[if_pos (by rfl)];refine Qai _ _ _ (by rfl) _ _ _ (by rfl) (by rfl) hr2 ?_;have I:=I.kept hk2 hb2;clear hr2 hk2 hb2
   rotate_left 2
   focus
    simp only[zG];go_simp;have T:=T.new3 (g:=w.heap.size+1+1+1+1) (by simp);have I:=I.alloc (.cells #[] 3);refine hK.out _ _ I.s4 fun hH=> ?_;clear hK K;try simp only[zX,zY]
    refine zR1 5 (fun K hK=> ?_);simp only[zG];obtain⟨x1,y1,w1,hr1,T',hk1,hb1⟩:=T.app1 (cap:=ca) (HA.out.below I.bl) hm;have T:=T';clear T';rw[if_pos (by rfl)];refine Qai _ _ _ (by rfl) _ _ _ (by rfl) (by rfl) hr1 ?_;have I:=I.kept hk1 hb1;clear hr1 hk1 hb1;refine hK.out _ _ I.s4 fun hH=> ?_;clear hK K;try simp only[zX,zY]
    refine zR1 9 (fun K hK=> ?_);simp only[zG];obtain⟨x2,y2,w2,hr2,T',hk2,hb2⟩:=T.app2 (cap:=cb) (HB.out.below I.bl) hb;have T:=T';clear T';rw[if_pos (by rfl)];refine Qai _ _ _ (by rfl) _ _ _ (by rfl) (by rfl) hr2 ?_;have I:=I.kept hk2 hb2;clear hr2 hk2 hb2
  rotate_left 3
  focus
   simp only[zG];go_simp;have T:=T.new3 (g:=w.heap.size+1+1+1) (by simp);have I:=I.alloc (.cells #[] 3);refine hK.out _ _ I.s4 fun hH=> ?_;clear hK K;try simp only[zX,zY]
   refine zR1 2 (fun K hK=> ?_);simp only[zG];go_simp;have T:=T.new1 (g:=w.heap.size+1+1+1+1) (by simp);have I:=I.alloc (.cells #[] 3);refine hK.out _ _ I.s4 fun hH=> ?_;clear hK K;try simp only[zX,zY]
   refine zR1 5 (fun K hK=> ?_);simp only[zG];obtain⟨x1,y1,w1,hr1,T',hk1,hb1⟩:=T.app1 (cap:=ca) (HA.out.below I.bl) hm;have T:=T';clear T';rw[if_pos (by rfl)];refine Qai _ _ _ (by rfl) _ _ _ (by rfl) (by rfl) hr1 ?_;have I:=I.kept hk1 hb1;clear hr1 hk1 hb1;refine hK.out _ _ I.s4 fun hH=> ?_;clear hK K;try simp only[zX,zY]
   refine zR1 9 (fun K hK=> ?_);simp only[zG];obtain⟨x2,y2,w2,hr2,T',hk2,hb2⟩:=T.app2 (cap:=cb) (HB.out.below I.bl) hb;have T:=T';clear T';rw[if_pos (by rfl)];refine Qai _ _ _ (by rfl) _ _ _ (by rfl) (by rfl) hr2 ?_;have I:=I.kept hk2 hb2;clear hr2 hk2 hb2
 rotate_left 4
 focus
  simp only[zG];go_simp;have T:=T.new3 (g:=w.heap.size+1+1) (by simp);have I:=I.alloc (.cells #[] 3);refine hK.out _ _ I.s4 fun hH=> ?_;clear hK K;try simp only[zX,zY]
  refine zR2 2 6 (fun K hK=> ?_) (fun K hK=> ?_)
  focus
   simp only[zG];go_simp;have T:=T.new1 (g:=w.heap.size+1+1+1) (by simp);have I:=I.alloc (.cells #[] 3);refine hK.out _ _ I.s4 fun hH=> ?_;clear hK K;try simp only[zX,zY]
   refine zR2 5 6 (fun K hK=> ?_) (fun K hK=> ?_)
   focus
    simp only[zG];obtain⟨x1,y1,w1,hr1,T',hk1,hb1⟩:=T.app1 (cap:=ca) (HA.out.below I.bl) hm;have T:=T';clear T';rw[if_pos (by rfl)];refine Qai _ _ _ (by rfl) _ _ _ (by rfl) (by rfl) hr1 ?_;have I:=I.kept hk1 hb1;clear hr1 hk1 hb1;refine hK.out _ _ I.s4 fun hH=> ?_;clear hK K;try simp only[zX,zY]
    refine zR1 6 (fun K hK=> ?_);simp only[zG];go_simp;have T:=T.new2 (g:=w1.heap.size) (by simp);have I:=I.alloc (.cells #[] 3);refine hK.out _ _ I.s4 fun hH=> ?_;clear hK K;try simp only[zX,zY]
    refine zR1 9 (fun K hK=> ?_);simp only[zG];obtain⟨x2,y2,w2,hr2,T',hk2,hb2⟩:=T.app2 (cap:=cb) (HB.out.below I.bl) hb;have T:=T';clear T';rw[if_pos (by rfl)];refine Qai _ _ _ (by rfl) _ _ _ (by rfl) (by rfl) hr2 ?_;have I:=I.kept hk2 hb2;clear hr2 hk2 hb2
   rotate_left
   focus
    simp only[zG];go_simp;have T:=T.new2 (g:=w.heap.size+1+1+1+1) (by simp);have I:=I.alloc (.cells #[] 3);refine hK.out _ _ I.s4 fun hH=> ?_;clear hK K;try simp only[zX,zY]
    refine zR1 5 (fun K hK=> ?_);simp only[zG];obtain⟨x1,y1,w1,hr1,T',hk1,hb1⟩:=T.app1 (cap:=ca) (HA.out.below I.bl) hm;have T:=T';clear T';rw[if_pos (by rfl)];refine Qai _ _ _ (by rfl) _ _ _ (by rfl) (by rfl) hr1 ?_;have I:=I.kept hk1 hb1;clear hr1 hk1 hb1;refine hK.out _ _ I.s4 fun hH=> ?_;clear hK K;try simp only[zX,zY]
    refine zR1 9 (fun K hK=> ?_);simp only[zG];obtain⟨x2,y2,w2,hr2,T',hk2,hb2⟩:=T.app2 (cap:=cb) (HB.out.below I.bl) hb;have T:=T';clear T';rw[if_pos (by rfl)];refine Qai _ _ _ (by rfl) _ _ _ (by rfl) (by rfl) hr2 ?_;have I:=I.kept hk2 hb2;clear hr2 hk2 hb2
  rotate_left 2
  focus
   simp only[zG];go_simp;have T:=T.new2 (g:=w.heap.size+1+1+1) (by simp);have I:=I.alloc (.cells #[] 3);refine hK.out _ _ I.s4 fun hH=> ?_;clear hK K;try simp only[zX,zY]
   refine zR1 2 (fun K hK=> ?_);simp only[zG];go_simp;have T:=T.new1 (g:=w.heap.size+1+1+1+1) (by simp);have I:=I.alloc (.cells #[] 3);refine hK.out _ _ I.s4 fun hH=> ?_;clear hK K;try simp only[zX,zY]
   refine zR1 5 (fun K hK=> ?_);simp only[zG];obtain⟨x1,y1,w1,hr1,T',hk1,hb1⟩:=T.app1 (cap:=ca) (HA.out.below I.bl) hm;have T:=T';clear T';rw[if_pos (by rfl)];refine Qai _ _ _ (by rfl) _ _ _ (by rfl) (by rfl) hr1 ?_;have I:=I.kept hk1 hb1;clear hr1 hk1 hb1;refine hK.out _ _ I.s4 fun hH=> ?_;clear hK K;try simp only[zX,zY]
   refine zR1 9 (fun K hK=> ?_);simp only[zG];obtain⟨x2,y2,w2,hr2,T',hk2,hb2⟩:=T.app2 (cap:=cb) (HB.out.below I.bl) hb;have T:=T';clear T';rw[if_pos (by rfl)];refine Qai _ _ _ (by rfl) _ _ _ (by rfl) (by rfl) hr2 ?_;have I:=I.kept hk2 hb2;clear hr2 hk2 hb2
 all_goals
  refine hK.out _ _ I.s4 fun hH=> ?_;clear hK K;try simp only[zX,zY]
  refine zR1 13 (fun K hK=> ?_);simp only[zG];obtain⟨x3,y3,w3,hr3,T',hk3,hb3⟩:=T.app3 (cap:=cc) (HC.out.below I.bl) ho;have T:=T';clear T';rw[if_pos (by rfl)];refine Qai _ _ _ (by rfl) _ _ _ (by rfl) (by rfl) hr3 ?_;have I:=I.kept hk3 hb3;clear hr3 hk3 hb3;obtain⟨r0,r1,r2,r3⟩:=I.r.row4;have f0:=I.r.thaw 0;have f1:=I.r.thaw 1;have f2:=I.r.thaw 2;have f3:=I.r.thaw 3;refine hK.out _ _ I.s4 fun hH=> ?_;clear hK K;try simp only[zX,zY]
  refine zt1 14 ?_;refine ztn (h:= ?_);try simp only[zX,zY]
  refine zte ?_;refine zR1 15 (fun K hK=> ?_);simp only[zG];go_simp;refine hK.out _ _ ((I.g.off (Qc3 w3 (w.heap.size+1) (.int .i64 gen) (.slice x1 m.length y1) (.slice x2 b.length y2) (.slice x3 o.length y3)) (by simp)).row4) fun hH=> ?_;clear hK K;try simp only[zX,zY]
  refine zdn ?_;generalize w3=W at*;go_wp2;have k0:Blk (W.setCell ⟨w.heap.size+1,0,none⟩ (.int .i64 gen)) (w.heap.size+1) 143 (Qak gen none 0 0 none 0 0 none 0 0):=I.r.setAt 0 _;have s0:(W.setCell ⟨w.heap.size+1,0,none⟩ (.int .i64 gen)).cell? ⟨w.heap.size+1,0,none⟩=some (.int .i64 gen):=k0.row4.1;have k1:Blk ((W.setCell ⟨w.heap.size+1,0,none⟩ (.int .i64 gen)).setCell ⟨w.heap.size+1,1,none⟩ (.slice x1 m.length y1)) (w.heap.size+1) 143 (Qak gen x1 m.length y1 none 0 0 none 0 0):=k0.setAt 1 _;have s1:((W.setCell ⟨w.heap.size+1,0,none⟩ (.int .i64 gen)).setCell ⟨w.heap.size+1,1,none⟩ (.slice x1 m.length y1)).cell? ⟨w.heap.size+1,1,none⟩=some (.slice x1 m.length y1):=k1.row4.2.1;have k2:Blk (((W.setCell ⟨w.heap.size+1,0,none⟩ (.int .i64 gen)).setCell ⟨w.heap.size+1,1,none⟩ (.slice x1 m.length y1)).setCell ⟨w.heap.size+1,2,none⟩ (.slice x2 b.length y2)) (w.heap.size+1) 143 (Qak gen x1 m.length y1 x2 b.length y2 none 0 0):=k1.setAt 2 _;have s2:(((W.setCell ⟨w.heap.size+1,0,none⟩ (.int .i64 gen)).setCell ⟨w.heap.size+1,1,none⟩ (.slice x1 m.length y1)).setCell ⟨w.heap.size+1,2,none⟩ (.slice x2 b.length y2)).cell? ⟨w.heap.size+1,2,none⟩=some (.slice x2 b.length y2):=k2.row4.2.2.1;have k3:Blk ((((W.setCell ⟨w.heap.size+1,0,none⟩ (.int .i64 gen)).setCell ⟨w.heap.size+1,1,none⟩ (.slice x1 m.length y1)).setCell ⟨w.heap.size+1,2,none⟩ (.slice x2 b.length y2)).setCell ⟨w.heap.size+1,3,none⟩ (.slice x3 o.length y3)) (w.heap.size+1) 143 (Qak gen x1 m.length y1 x2 b.length y2 x3 o.length y3):=k2.setAt 3 _
  have s3:((((W.setCell ⟨w.heap.size+1,0,none⟩ (.int .i64 gen)).setCell ⟨w.heap.size+1,1,none⟩ (.slice x1 m.length y1)).setCell ⟨w.heap.size+1,2,none⟩ (.slice x2 b.length y2)).setCell ⟨w.heap.size+1,3,none⟩ (.slice x3 o.length y3)).cell? ⟨w.heap.size+1,3,none⟩=some (.slice x3 o.length y3):=k3.row4.2.2.2;refine bodyPost_ret (v:= .agg (Qak gen x1 m.length y1 x2 b.length y2 x3 o.length y3)) (by simp[results,Tryz.results108,go_sem,s0,s1,s2,s3]) rfl ?_;exact T.told I
end Go.Proofs.YtajbldnhjpjghaaGreat.Gen
