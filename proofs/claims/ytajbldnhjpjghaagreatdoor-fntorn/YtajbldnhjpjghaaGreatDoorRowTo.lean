/-
  The laws' toItem, toItemS and toRow: a row in new memory that holds the same items. No condition but that the items are at most 1048576.
-/
import Derived.Test.YtajbldnhjpjghaaGreatDoorTold
import Derived.Test.YtajbldnhjpjghaaGreatDoorInts
set_option linter.unusedVariables false
set_option linter.unusedSimpArgs false
set_option maxRecDepth 100000
set_option maxHeartbeats 8000000
set_option maxRecDepth 100000
set_option maxHeartbeats 8000000
namespace Go.Proofs.YtajbldnhjpjghaaGreatDoor.Items
open ChangeShapes WideShapes ChangeAt RowKit Base
def zeroItem:Value:= .agg Qdr
def zeros (n:Nat):Array Value:=madeCells zeroItem.cells (n*5)
theorem zeros_size (n:Nat):(zeros n).size=n*5:=size_madeCells _ _
theorem Qgp {w w' :World} {b o n:Nat} (h:w.there b o n) (hb:b<w.heap.size) (hw:Below w.heap.size w w'):w'.there b o n:=fun j hj=>by
 rw[hw.cell (p:=⟨b,o+j,none⟩) hb,hw.frozen (p:=⟨b,o+j,none⟩) hb];exact h j hj
theorem Qfr (w:World) (n:Nat):(w.alloc (.cells (zeros n) 160)).there w.heap.size 0 (n*5):=fun j hj=>by
 have:j<(zeros n).size:=by rw[zeros_size];exact hj
 simp[this]
theorem In.set {w:World} {b o:Nat} {l:List It} (h:In w b o l) (p:Addr) (v:Value) (hp:p.block≠b):In (w.setCell p v) b o l:=fun j u hu=>by
 rw[World.cell?_setCell_other (h:=fun e=>hp (by rw[e]))];exact h j u hu
theorem Qi9 {w:World} {b o n:Nat} (h:w.there b o n) (b' o' :Nat) (v:Value):(w.setCell ⟨b',o',none⟩ v).there b o n:=World.there_setCells h b' o' [v]
def Fresh (B:Nat) (w:World) (v:Value) (l:List It):Prop:=
  ∃(A:Option Addr) (c:Nat),v= .slice A l.length c/\l.length<=c/\(l= []∨∃b o,A=some ⟨b,o,none⟩/\B<=b/\b<w.heap.size/\In w b o l/\w.there b o (l.length*5))
open Joins Deep
instance:Inhabited It:=⟨⟨0,⟨#[]⟩,⟨#[]⟩,0,0⟩⟩
abbrev At (w:World) (A:Option Addr) (l:List It):Prop:=l= []∨∃b o,A=some ⟨b,o,none⟩/\b<w.heap.size/\In w b o l
theorem At.below {w w' :World} {A:Option Addr} {l:List It} (h:At w A l) (hw:Below w.heap.size w w'):At w' A l:=
 h.imp id fun⟨b,o,e,hb,hi⟩=>⟨b,o,e,Nat.lt_of_lt_of_le hb hw.size,hi.below hb hw⟩
def I64 (x:Int):Prop:= -9223372036854775808<=x/\x<=9223372036854775807
theorem i64_of {x:Int} (hx:(Lit.int .i64 x).wf=true):I64 x:=by simpa [I64,Lit.wf,IntKind.min,IntKind.max,IntKind.signed,IntKind.bits]using hx
open Shelf
theorem infoI:(Tryz.prog.info? 160).map (fun i=>(i.zero,i.size,i.bytes))=some (some (.agg Qdr),5,56):=by kernel_rfl
theorem flat_one' (l:List It):∀u∈flat l,u.oneCell' =true:=by
 intro u hu;obtain⟨x,_,hx⟩:=List.mem_flatMap.1 hu;simp[It.cs]at hx;rcases hx with rfl|rfl|rfl|rfl|rfl<;>rfl
theorem Qgi {B:Nat} {W:World} {g cap:Nat} {cur:Array Value} {t:TypeId} {l:List It} (h:Blk W g t cur) (hB:B<=g) (hc:l.length<=cap) (hsz:cur.size=cap*5) (ht:cur.toList.take (l.length*5)=flat l):
 Fresh B W (.slice (some ⟨g,0,none⟩) l.length cap) l:=by
 refine⟨_,_,rfl,hc,.inr ⟨g,0,rfl,hB,h.lt,?_,?_⟩⟩
 . intro j v hv;rw[← ht,List.getElem?_take]at hv;split at hv
   . exact(h.cell (i:=0+j) (by simpa using hv))
   . cases hv
 . intro j hj;refine⟨?_,h.thaw _⟩;have hlt:0+j<cur.size:=(by rw[hsz];have:=Nat.mul_le_mul_right 5 hc;omega);rw[h.cell (Array.getElem?_eq_getElem hlt)];rfl
theorem Qgc (A:Option Addr) (cap:Nat) (w:World):Src Tryz.prog 5 155 (.slice A 0 cap) 0 [] w:=
 ⟨.inl ⟨_,Tryz.underlying155⟩,fun w' =>by cases A<;>rfl,by cases A<;>simp[Builtin.firstCells,loadCells,loadCellsFrom],by cases A<;>simp[Builtin.firstCells,loadCells,loadCellsFrom],rfl,by simp⟩
theorem Qag {P:Program} {w w' :World} {o:Oper} {a:Act} {K:Act->World->Prop} {Q:Exit->Act->World->Prop} (s x:Operand) (t:TypeId)
 (ho:o.op= .call {callee:= .builtin .append,args:= #[s,x],argTypes:= #[t,t]}) (v xv r:Value) (hs:a.eval s=v) (hx:a.eval x=xv)
 (hr:(Builtin.append_ #[t,t] o.type #[v,xv]).run P w= .ok r w') (h:K (a.put o.dst r) w'):o.wp P a w K Q:=by
 unfold Oper.wp execOp;simp only[ho,resolve,invoke,builtin,Sem.run_bind,Sem.run_pure,Result.andThen_ok,List.map_toArray,List.map_cons,List.map_nil,hs,hx,hr];exact h
theorem Qac {P:Program} {w w' :World} {ops:Array Oper} {rest:List Oper} {o:Oper} {a:Act} {Q:Exit->Act->World->Prop} (hgd:o.guard=none) (s x:Operand) (t:TypeId)
 (ho:o.op= .call {callee:= .builtin .append,args:= #[s,x],argTypes:= #[t,t]}) (v xv r:Value) (hs:a.eval s=v) (hx:a.eval x=xv)
 (hr:(Builtin.append_ #[t,t] o.type #[v,xv]).run P w= .ok r w') (h:wpList P ops Q rest (a.put o.dst r) w'):wpList P ops Q (o::rest) a w:=
 wpList_plain hgd fun _ hK=>Qag s x t ho v xv r hs hx hr (hK _ _ h)
theorem Qes {P:Program} {w w' :World} {ops:Array Oper} {o:Oper} {a:Act} {K:Act->World->Prop} {Q:Exit->Act->World->Prop} {E:Prop} (hgd:o.guard=none) (s x:Operand) (t:TypeId)
 (ho:o.op= .call {callee:= .builtin .append,args:= #[s,x],argTypes:= #[t,t]}) (v xv r:Value) (hs:a.eval s=v) (hx:a.eval x=xv)
 (hr:(Builtin.append_ #[t,t] o.type #[v,xv]).run P w= .ok r w') (h:K (a.put o.dst r) w'):if Region.wanted o (yielded ops a.tmps)=true then Oper.wp P o a w K Q else E:=by
 have hw:Region.wanted o (yielded ops a.tmps)=true:=by simp[Region.wanted,hgd]
 rw[if_pos hw];exact Qag s x t ho v xv r hs hx hr h
theorem Qcw (B:Nat) (v:Value) (l m:List It) (A:Option Addr) (cap:Nat) (w:World) (hB:B<=w.heap.size) (hv:w.ownsRow B 160 5 v l.length (flat l)) (hA:At w A m) (hlen:l.length+m.length<=3000000):
 ∃v' w',(Builtin.append_ #[155,155] 155 #[v,.slice A m.length cap]).run Tryz.prog w= .ok v' w' /\w'.ownsRow B 160 5 v' (l.length+m.length) (flat (l++m))/\w.grownBy w' v.ownBlock/\(v'.ownBlock=v.ownBlock∨v'.ownBlock=some w.heap.size):=by
 obtain⟨i0,hi,hz0,hz1,hz2⟩:=info_parts infoI;by_cases h0:m= []
 . subst h0;have e0:∃a n c,v= .slice a n c/\n<=c:=by
    rcases hv.2 with⟨rfl,_⟩|⟨g,c,cur,rfl,_,_,h,_⟩
    . exact⟨_,_,_,rfl,Nat.le_refl _⟩
    . exact⟨_,_,_,rfl,h⟩
   obtain⟨a,n,c,rfl,hle⟩:=e0;exact⟨_,_,run_append_nothing w 155 155 155 160 i0 Tryz.underlying155 hi a n c hle _ (hz1▸Qgc A cap w),by simpa using hv,World.grownBy.refl _ _,.inl rfl⟩
 . obtain⟨b,o,rfl,hb,hin⟩:=hA.resolve_left h0;have hm:0<m.length:=List.length_pos_iff.2 h0;obtain⟨g,c,w',hr,h1,h2,h3,h4⟩:=run_append_lies (P:=Tryz.prog) w 155 155 B 160 i0 _ 5 56 Tryz.underlying155 hi hz0 hz1 hz2 rfl (by omega) v l.length (flat l) hv ⟨b,o,none⟩ m.length cap (flat m) (Qch m)
    (fun j u hu=>by rw[Addr.add_mid];exact hin j u hu) (flat_one' m) hm (by simp[maxLen];omega) (by omega) hB _ rfl
   exact⟨_,_,hr,by rw[Qc8];exact h1,h2,h3.imp (fun e=>by rw[e];rfl) (fun e=>by rw[← e];rfl)⟩
theorem Qa0 {B:Nat} {W:World} {v:Value} {t:TypeId} {l:List It} (h:W.ownsRow B t 5 v l.length (flat l)):Fresh B W v l:=by
 rcases h.2 with⟨rfl,h0⟩|⟨g,c,cur,rfl,hB,hg,hc,_,hsz,ht⟩
 . have:l= []:=List.length_eq_zero_iff.1 h0;subst this;exact⟨none,0,rfl,Nat.le_refl _,.inl rfl⟩
 . exact Qgi (t:=t) hg hB hc hsz ht
theorem Qan {B:Nat} {W:World} {v:Value} {t:TypeId} {k n:Nat} {xs:List Value} (h:W.ownsRow B t k v n xs):∃a c,v= .slice a n c/\n<=c:=by
 rcases h.2 with⟨rfl,rfl⟩|⟨g,c,cur,rfl,hB,hg,hc,_⟩
 . exact⟨none,0,rfl,Nat.le_refl _⟩
 . exact⟨_,_,rfl,hc⟩
theorem Qa6 {B C:Nat} {W:World} {v:Value} {t:TypeId} {k n:Nat} {xs:List Value} (h:W.ownsRow B t k v n xs) (hC:C<B):some C≠v.ownBlock:=by
 rcases h.2 with⟨rfl,rfl⟩|⟨g,c,cur,rfl,hB,_⟩
 . simp[Value.ownBlock]
 . simp[Value.ownBlock];omega
theorem Qal {B C i:Nat} {W:World} {v u:Value} {t:TypeId} {k n:Nat} {xs:List Value} (h:W.ownsRow B t k v n xs) (hne:some C≠v.ownBlock):(W.setCell ⟨C,i,none⟩ u).ownsRow B t k v n xs:=by
 refine⟨h.1,?_⟩;rcases h.2 with⟨rfl,rfl⟩|⟨g,c,cur,rfl,hB,hg,hc,hm,hsz,ht⟩
 . exact .inl ⟨rfl,rfl⟩
 . have hCg:g≠C:=fun e=>hne (by simp[Value.ownBlock,e])
   exact .inr ⟨g,c,cur,rfl,hB,Blk.other (show Blk W g t cur from hg) hCg i u,hc,hm,hsz,ht⟩
end Go.Proofs.YtajbldnhjpjghaaGreatDoor.Items
namespace Go.Proofs.YtajbldnhjpjghaaGreatDoor.Gen
open ChangeShapes WideShapes ChangeAt RowKit Joins Deep Base
structure CB (w W:World) (r:Nat) (A:Option Addr) (cap:Nat) (L:List UInt8) (o:Option Int):Prop where
  cu:CuO W r A cap L o
  only:Only r w W
  lr:r<w.heap.size
  la:L= []∨∀c o,A=some ⟨c,o,none⟩->c<w.heap.size
theorem CB.call {w W W1:World} {r:Nat} {A:Option Addr} {cap:Nat} {L:List UInt8} {o o' :Option Int} (h:CB w W r A cap L o) (k:Only r W W1) (c:CuO W1 r A cap L o'):CB w W1 r A cap L o' :=⟨c,Qao h.only k,h.lr,h.la⟩
theorem CuO.offp {W W' :World} {r:Nat} {A:Option Addr} {cap:Nat} {l:List UInt8} {o:Option Int} {S:Nat->Prop} (h:CuO W r A cap l o) (g:Offp S W W') (hr:¬S r) (hA:l= []∨∀c o,A=some ⟨c,o,none⟩->¬S c):CuO W' r A cap l o:=by
 obtain⟨i,ok,hc⟩:=h;refine⟨i,ok,hc.box.offp g hr,?_,hc.i64,hc.st⟩;rcases hA with h|hA
 . exact .inl h
 . exact hc.src.imp id fun⟨c,o,e,hb,hn,hi⟩=>⟨c,o,e,Nat.lt_of_lt_of_le hb g.size,hn,hi.offp g hb (hA c o e)⟩
theorem CB.offp {w W W1:World} {r:Nat} {A:Option Addr} {cap:Nat} {L:List UInt8} {o:Option Int} {S:Nat->Prop} (h:CB w W r A cap L o) (k:Offp S W W1) (hS:∀x,S x->w.heap.size<=x):CB w W1 r A cap L o:=
 ⟨h.cu.offp k (fun e=>by have:=hS _ e;have:=h.lr;omega) (h.la.imp id fun f c o e e' =>by have:=hS _ e';have:=f c o e;omega),Qb8 h.only k hS,h.lr,h.la⟩
theorem CB.below {w W W1:World} {r:Nat} {A:Option Addr} {cap:Nat} {L:List UInt8} {o:Option Int} (h:CB w W r A cap L o) (k:Below W.heap.size W W1):CB w W1 r A cap L o:=h.offp (Offp.of_below (S:=fun _=>False) k) (fun x e=>e.elim)
theorem CB.start {w:World} {r:Nat} {A:Option Addr} {cap:Nat} {L:List UInt8} {o:Option Int} (h:CuO w r A cap L o):CB w w r A cap L o:=⟨h,Only.refl _ _,h.far.1,h.far.2⟩
theorem CB.ok {w W:World} {r:Nat} {A:Option Addr} {cap:Nat} {L:List UInt8} {o:Option Int} (h:CB w W r A cap L o):W.cell? ⟨r,2,none⟩=some (.bool o.isSome)/\r<W.heap.size:=by
 obtain⟨i,ok,hc⟩:=h.cu;have e:ok=o.isSome:=by rw[hc.st];cases ok<;>rfl
 exact⟨e▸hc.box.row3.2.2,hc.box.lt⟩
def gl {α:Type} (l:List UInt8) (get:Int->Option (α × Nat)) (o:Option Int):Option (List α × Nat):=o.bind (Qbx l get)
section
variable {P:Program} {ops:Array Oper} {Q:Exit->Act->World->Prop} {md:Region.Mode} {S:World->Prop} {z:Nat}
def Qc4 (md:Region.Mode) (ops:Array Oper) (z:Nat):Bool:=
  match ops[z]? with
  |none=>false
  |some o=>(List.range ops.size).all fun j=>j==z||o.after.any fun e=>Region.binds md e&&e.on==j
theorem not_last {i:Nat} {L:Array Bool} (hz:Qc4 md ops z=true) (hi:i∈Region.ready md ops L) (hne:i≠z):z∉Region.ready md ops L:=fun h=>by
 obtain⟨hu,oi,hoi,_⟩:=mem_ready.1 hi;obtain⟨_,oz,hoz,hall⟩:=mem_ready.1 h;have hlt:i<ops.size:=(Array.getElem?_eq_some_iff.1 hoi).1;simp only[Qc4,hoz,List.all_eq_true,List.mem_range,Bool.or_eq_true,beq_iff_eq]at hz;have h1:=(hz i hlt).resolve_left hne;obtain⟨e,he,hb⟩:=Array.any_eq_true'.1 h1;simp only[Bool.and_eq_true,beq_iff_eq]at hb;have h2:=hall e he hb.1;rw[hb.2]at h2;rcases Nat.lt_or_ge i L.size with h' |h'
 . simp[h']at hu h2;rw[hu]at h2;cases h2
 . simp[Array.getElem?_eq_none h']at h2
def Qb7 (P:Program) (md:Region.Mode) (ops:Array Oper) (Q:Exit->Act->World->Prop) (S:World->Prop) (z:Nat):Nat->Array Bool->Act->World->Prop
  |0,L,a,w=>Region.ready md ops L= []/\Q .normal a w
  |n+1,L,a,w=>(Region.ready md ops L= []->Q .normal a w)/\
    ∀i∈Region.ready md ops L,wpOp P ops Q i (fun a' w' =>(i=z∨S w')/\Qb7 P md ops Q S z n (L.setIfInBounds i true) a' w') a w
theorem Qlp (n:Nat):∀(L:Array Bool) (a:Act) (w:World),Qb7 P md ops Q S z n L a w->wpAny P md ops Q n L a w:=by
 induction n with
 |zero=>exact fun _ _ _ h=>h
 |succ n ih=>exact fun L a w h=>⟨h.1,fun i hi=>wpOp_mono (fun a' w' g=>ih _ a' w' g.2) (h.2 i hi)⟩
theorem upTo_take {i:Nat} {oi:Oper} {v:Value} (hz:Qc4 md ops z=true) (hi:ops[i]? =some oi) (hs:Region.noSelect ops=true) (hQ:∀c a w,Q (.panic c) (a.put oi.dst v) w->Q (.panic c) a w) (hiz:i≠z) (n:Nat):
 ∀(L:Array Bool) (a:Act) (w:World),Region.free md ops L i=true->i∈Region.ready md ops L->YieldsIf P ops S oi v a->S w->
  Qb7 P md ops Q S z n (L.setIfInBounds i true) (a.put oi.dst v) w->Qb7 P md ops Q S z (n+1) L a w:=by
 have sel:∀(j:Nat) (o:Oper) cs b,ops[j]? =some o->o.op≠ .select cs b:=Region.noSelect_spec hs
 suffices key:∀(L:Array Bool) (a:Act) (w:World),(∀j oj,ops[j]? =some oj->j≠i->L.getD j true=false->(∀e∈oj.after,Region.binds md e=true->e.on≠i)->oi.apart ops oj=true)->
  i∈Region.ready md ops L->YieldsIf P ops S oi v a->S w->Qb7 P md ops Q S z n (L.setIfInBounds i true) (a.put oi.dst v) w->Qb7 P md ops Q S z (n+1) L a w from
  fun L a w hf hr hy hS H=>key L a w (Region.free_spec hi hf) hr hy hS H
 induction n with
 |zero=>
  intro L a w _ hr hy hS H
  constructor
  . intro h;rw[h]at hr;exact absurd hr (List.not_mem_nil)
  . intro j hj;rcases Decidable.em (j=i)with e|e
    . subst e;exact hy.wpOp hi hS ⟨.inr hS,H⟩
    . have g:=ready_mono hj e;rw[H.1]at g;exact absurd g (List.not_mem_nil)
 |succ n ih=>
  intro L a w hfr hr hy hS H
  constructor
  . intro h;rw[h]at hr;exact absurd hr (List.not_mem_nil)
  . intro j hj;rcases Decidable.em (j=i)with e|e
    . subst e;exact hy.wpOp hi hS ⟨.inr hS,H⟩
    . obtain⟨hun,oj,hoj,hwait⟩:=mem_ready.1 hj;have hjz:j≠z:=fun h=>by subst h;exact not_last hz hr hiz hj
      have iun:=(mem_ready.1 hr).1;have hno:∀d∈oj.after,Region.binds md d=true->d.on≠i:=fun d hd hb q=>by
       have g:=hwait d hd hb;rw[q]at g;rcases Nat.lt_or_ge i L.size with k|k
       . simp[k]at iun g;rw[iun]at g;cases g
       . simp[Array.getElem?_eq_none k]at g
      have step:=wpOp_putIf hoj (hfr j oj hoj e hun hno) (fun cs b=>sel i oi cs b hi) (fun cs b=>sel j oj cs b hoj) hQ hy (H.2 j (ready_mono hj e));refine wpOp_mono (fun a' w' g=> ?_) step;have hS' :S w' :=g.2.1.resolve_left hjz;refine⟨.inr hS',ih _ a' w' (fun k ok hk hki hu hn=> ?_) (ready_mono hr (Ne.symm e)) g.1 hS' ?_⟩
      . refine hfr k ok hk hki ?_ hn;rcases Decidable.em (j=k)with q|q
        . subst q;exact hun
        . rwa [getD_set_ne true q]at hu
      . have:=g.2.2;rwa [Array.setIfInBounds_comm _ _ (Ne.symm e)]at this
theorem Qhy {i:Nat} {oi:Oper} {v:Value} {n:Nat} {L:Array Bool} {a:Act} {w:World} (hz:Qc4 md ops z=true) (hi:ops[i]? =some oi) (hs:Region.noSelect ops=true) (hiz:i≠z)
 (hf:Region.free md ops L i=true) (hr:(Region.ready md ops L).contains i=true) (hQ:∀c a w,Q (.panic c) (a.put oi.dst v) w->Q (.panic c) a w) (hy:YieldsIf P ops S oi v a) (hS:S w)
 (h:Qb7 P md ops Q S z n (L.setIfInBounds i true) (a.put oi.dst v) w):Qb7 P md ops Q S z (n+1) L a w:=
 upTo_take hz hi hs hQ hiz n L a w hf (by simpa using hr) hy hS h
theorem Qaz {i:Nat} {o:Oper} {n:Nat} {L:Array Bool} {a:Act} {w:World} (hr:Region.ready md ops L= [i]) (ho:ops[i]? =some o)
 (h:∀K' :Act->World->Prop,Shut (∀a w,(i=z∨S w)->Qb7 P md ops Q S z n (L.setIfInBounds i true) a w->K' a w)->if Region.wanted o (yielded ops a.tmps)=true then Oper.wp P o a w K' Q else K' (a.put o.dst undef) w):
 Qb7 P md ops Q S z (n+1) L a w:=by
 refine⟨fun h0=>(by rw[hr]at h0;cases h0),fun j hj=> ?_⟩;rw[hr]at hj;obtain rfl:j=i:=by simpa using hj
 exact wpOp_step ho (fun K' hK=>h K' (fun a w h1 h2=>hK a w ⟨h1,h2⟩))
theorem Qhz {i j:Nat} {o p:Oper} {n:Nat} {L:Array Bool} {a:Act} {w:World} (hr:Region.ready md ops L= [i,j]) (ho:ops[i]? =some o) (hp:ops[j]? =some p)
 (h:∀K' :Act->World->Prop,Shut (∀a w,(i=z∨S w)->Qb7 P md ops Q S z n (L.setIfInBounds i true) a w->K' a w)->if Region.wanted o (yielded ops a.tmps)=true then Oper.wp P o a w K' Q else K' (a.put o.dst undef) w)
 (h' :∀K' :Act->World->Prop,Shut (∀a w,(j=z∨S w)->Qb7 P md ops Q S z n (L.setIfInBounds j true) a w->K' a w)->if Region.wanted p (yielded ops a.tmps)=true then Oper.wp P p a w K' Q else K' (a.put p.dst undef) w):
 Qb7 P md ops Q S z (n+1) L a w:=by
 refine⟨fun h0=>(by rw[hr]at h0;cases h0),fun k hk=> ?_⟩;rw[hr]at hk;rcases List.mem_cons.1 hk with rfl|hk
 . exact wpOp_step ho (fun K' hK=>h K' (fun a w h1 h2=>hK a w ⟨h1,h2⟩))
 . obtain rfl:k=j:=(by simpa using hk);exact wpOp_step hp (fun K' hK=>h' K' (fun a w h1 h2=>hK a w ⟨h1,h2⟩))
theorem Qcd {L:Array Bool} {a:Act} {w:World} (hr:Region.ready md ops L= []) (h:Q .normal a w):∀n,Qb7 P md ops Q S z n L a w
 |0=>⟨hr,h⟩
 |_+1=>⟨fun _=>h,by rw[hr];simp⟩
theorem Qbv {id:Nat} {a:Act} {w:World} (z:Nat) (S:World->Prop) (hm:P.follows .mixedOrders=true) (h:Qb7 P .any ops Q S z ops.size (Array.replicate ops.size false) a w.drew):(Code.region id ops true).wp P Q a w:=
 wp_region_any hm (Qlp _ _ _ _ h)
end
end Go.Proofs.YtajbldnhjpjghaaGreatDoor.Gen
namespace Go.Proofs.YtajbldnhjpjghaaGreatDoor
open Gen
theorem zG {α:Type}:(∀(l:List α) (i:Nat) (h:i<l.toArray.size),l.toArray[i]=l[i]'(by simpa using h))/\(∀(a:α) (l:List α) (i:Nat) (h:i+1<(a::l).length),(a::l)[i+1]=l[i]'(by simpa using h))/\(∀(a:α) (l:List α) (h:0<(a::l).length),(a::l)[0]=a):=⟨fun _ _ _=>rfl,fun _ _ _ _=>rfl,fun _ _ _=>rfl⟩
theorem zY {α:Type}:(∀(l:List α) (i:Nat) (h:i<l.toArray.size),l.toArray[i]=l[i]'(by simpa using h))/\(∀(a:α) (l:List α) (i:Nat) (h:i+1<(a::l).length),(a::l)[i+1]=l[i]'(by simpa using h))/\(∀(a:α) (l:List α) (h:0<(a::l).length),(a::l)[0]=a)/\(∀(l:List α) (i:Nat) (v:α),l.toArray.setIfInBounds i v=(l.set i v).toArray)/\(∀(a v:α) (l:List α),(a::l).set 0 v=v::l)/\(∀(a v:α) (l:List α) (i:Nat),(a::l).set (i+1) v=a::l.set i v):=⟨fun _ _ _=>rfl,fun _ _ _ _=>rfl,fun _ _ _=>rfl,fun _ _ _=>by simp,fun _ _ _=>rfl,fun _ _ _ _=>rfl⟩
theorem zX:(∀(a:Act) (v:Value),a.put none v=a)/\(∀(a:Act) (t:Tmp) (v:Value),a.put (some t) v={a with tmps:=a.tmps.setIfInBounds t v}):=⟨fun _ _=>rfl,fun _ _ _=>rfl⟩
section
variable {P:Program} {md:Region.Mode} {ops:Array Oper} {Q:Go.Exit->Act->World->Prop} {S:World->Prop} {fuel:Nat} {listed:Array Bool} {a:Act} {w:World}
def ZTk (_:List Nat) (P:Program) (md:Region.Mode) (ops:Array Oper) (Q:Go.Exit->Act->World->Prop) (S:World->Prop) (fuel:Nat) (listed:Array Bool) (a:Act) (w:World):Prop:=wpAnyH P md ops Q S fuel listed a w
theorem ztk (is:List Nat) (h:ZTk is P md ops Q S fuel listed a w):wpAnyH P md ops Q S fuel listed a w:=h
theorem zt1 (i:Nat) (h:ZTk [i] P md ops Q S fuel listed a w):wpAnyH P md ops Q S fuel listed a w:=h
theorem zte (h:wpAnyH P md ops Q S fuel listed a w):ZTk [] P md ops Q S fuel listed a w:=h
theorem ztn {i:Nat} {is:List Nat} {oi:Oper} {v:Value} (hi:ops[i]? =some oi:=by rfl) (hw:Region.wanted oi (yielded ops a.tmps)=true:=by rfl) (hy:∀w,S w->(execOp a.eval oi).run P w= .ok (.value v) w:=by(intro w hSw;(try dsimp only at hSw);go_simp<;>with_reducible rfl)) (hS:S w:=by assumption) (hs:Region.noSelect ops=true:=by kernel_rfl) (hf:Region.free md ops listed i=true:=by kernel_rfl) (hr:(Region.ready md ops listed).contains i=true:=by kernel_rfl)
 (hQ:∀c a w,Q (.panic c) (a.put oi.dst v) w->Q (.panic c) a w:=by exact fun _ _ _ h=>h) (h:ZTk is P md ops Q S fuel (listed.setIfInBounds i true) (a.put oi.dst v) w):ZTk (i::is) P md ops Q S (fuel+1) listed a w:=wpAnyH_take hi hs hf hr hQ (.inl ⟨hw,hy⟩) hS h
theorem ztu {i:Nat} {is:List Nat} {oi:Oper} (hi:ops[i]? =some oi:=by rfl) (hw:Region.wanted oi (yielded ops a.tmps)=false:=by rfl) (hS:S w:=by assumption) (hs:Region.noSelect ops=true:=by kernel_rfl) (hf:Region.free md ops listed i=true:=by kernel_rfl) (hr:(Region.ready md ops listed).contains i=true:=by kernel_rfl)
 (hQ:∀c a w,Q (.panic c) (a.put oi.dst undef) w->Q (.panic c) a w:=by exact fun _ _ _ h=>h) (h:ZTk is P md ops Q S fuel (listed.setIfInBounds i true) (a.put oi.dst undef) w):ZTk (i::is) P md ops Q S (fuel+1) listed a w:=wpAnyH_take hi hs hf hr hQ (.inr ⟨hw,rfl⟩) hS h
theorem zR1 (i:Nat) {o:Oper} (h:∀K' :Act->World->Prop,Shut (∀a w,S w->(S w->wpAnyH P md ops Q S fuel (listed.setIfInBounds i true) a w)->K' a w)->if Region.wanted o (yielded ops a.tmps)=true then Oper.wp P o a w K' Q else K' (a.put o.dst undef) w) (ho:ops[i]? =some o:=by rfl) (hr:Region.ready md ops listed= [i]:=by kernel_rfl):wpAnyH P md ops Q S (fuel+1) listed a w:=wpAnyH_ready hr (by simp) (.cons ho h .nil)
theorem zR2 (i j:Nat) {o o2:Oper} (h:∀K' :Act->World->Prop,Shut (∀a w,S w->(S w->wpAnyH P md ops Q S fuel (listed.setIfInBounds i true) a w)->K' a w)->if Region.wanted o (yielded ops a.tmps)=true then Oper.wp P o a w K' Q else K' (a.put o.dst undef) w) (h2:∀K' :Act->World->Prop,Shut (∀a w,S w->(S w->wpAnyH P md ops Q S fuel (listed.setIfInBounds j true) a w)->K' a w)->if Region.wanted o2 (yielded ops a.tmps)=true then Oper.wp P o2 a w K' Q else K' (a.put o2.dst undef) w)
 (ho:ops[i]? =some o:=by rfl) (ho2:ops[j]? =some o2:=by rfl) (hr:Region.ready md ops listed= [i,j]:=by kernel_rfl):wpAnyH P md ops Q S (fuel+1) listed a w:=wpAnyH_ready hr (by simp) (.cons ho h (.cons ho2 h2 .nil))
theorem zR3 (i j k:Nat) {o o2 o3:Oper} (h:∀K' :Act->World->Prop,Shut (∀a w,S w->(S w->wpAnyH P md ops Q S fuel (listed.setIfInBounds i true) a w)->K' a w)->if Region.wanted o (yielded ops a.tmps)=true then Oper.wp P o a w K' Q else K' (a.put o.dst undef) w) (h2:∀K' :Act->World->Prop,Shut (∀a w,S w->(S w->wpAnyH P md ops Q S fuel (listed.setIfInBounds j true) a w)->K' a w)->if Region.wanted o2 (yielded ops a.tmps)=true then Oper.wp P o2 a w K' Q else K' (a.put o2.dst undef) w)
 (h3:∀K' :Act->World->Prop,Shut (∀a w,S w->(S w->wpAnyH P md ops Q S fuel (listed.setIfInBounds k true) a w)->K' a w)->if Region.wanted o3 (yielded ops a.tmps)=true then Oper.wp P o3 a w K' Q else K' (a.put o3.dst undef) w)
 (ho:ops[i]? =some o:=by rfl) (ho2:ops[j]? =some o2:=by rfl) (ho3:ops[k]? =some o3:=by rfl) (hr:Region.ready md ops listed= [i,j,k]:=by kernel_rfl):wpAnyH P md ops Q S (fuel+1) listed a w:=wpAnyH_ready hr (by simp) (.cons ho h (.cons ho2 h2 (.cons ho3 h3 .nil)))
theorem zdn (h:Q .normal a w) (hr:Region.ready md ops listed= []:=by kernel_rfl):wpAnyH P md ops (NoPanic Q) S fuel listed a w:=wpAnyH_done hr (NoPanic.normal h) _
end
section
variable {P:Program} {md:Region.Mode} {ops:Array Oper} {Q:Go.Exit->Act->World->Prop} {S:World->Prop} {z fuel:Nat} {listed:Array Bool} {a:Act} {w:World}
def ZPk (_:List Nat) (P:Program) (md:Region.Mode) (ops:Array Oper) (Q:Go.Exit->Act->World->Prop) (S:World->Prop) (z fuel:Nat) (listed:Array Bool) (a:Act) (w:World):Prop:=Qb7 P md ops Q S z fuel listed a w
theorem zpk (is:List Nat) (h:ZPk is P md ops Q S z fuel listed a w):Qb7 P md ops Q S z fuel listed a w:=h
theorem zp1 (i:Nat) (h:ZPk [i] P md ops Q S z fuel listed a w):Qb7 P md ops Q S z fuel listed a w:=h
theorem zpe (h:Qb7 P md ops Q S z fuel listed a w):ZPk [] P md ops Q S z fuel listed a w:=h
theorem zpn {i:Nat} {is:List Nat} {oi:Oper} {v:Value} (hi:ops[i]? =some oi:=by rfl) (hw:Region.wanted oi (yielded ops a.tmps)=true:=by rfl) (hy:∀w,S w->(execOp a.eval oi).run P w= .ok (.value v) w:=by(intro w hSw;(try dsimp only at hSw);go_simp<;>with_reducible rfl)) (hS:S w:=by assumption) (hz:Qc4 md ops z=true:=by kernel_rfl) (hs:Region.noSelect ops=true:=by kernel_rfl) (hiz:i≠z:=by decide) (hf:Region.free md ops listed i=true:=by kernel_rfl) (hr:(Region.ready md ops listed).contains i=true:=by kernel_rfl)
 (hQ:∀c a w,Q (.panic c) (a.put oi.dst v) w->Q (.panic c) a w:=by exact fun _ _ _ h=>h) (h:ZPk is P md ops Q S z fuel (listed.setIfInBounds i true) (a.put oi.dst v) w):ZPk (i::is) P md ops Q S z (fuel+1) listed a w:=Qhy hz hi hs hiz hf hr hQ (.inl ⟨hw,hy⟩) hS h
theorem zpu {i:Nat} {is:List Nat} {oi:Oper} (hi:ops[i]? =some oi:=by rfl) (hw:Region.wanted oi (yielded ops a.tmps)=false:=by rfl) (hS:S w:=by assumption) (hz:Qc4 md ops z=true:=by kernel_rfl) (hs:Region.noSelect ops=true:=by kernel_rfl) (hiz:i≠z:=by decide) (hf:Region.free md ops listed i=true:=by kernel_rfl) (hr:(Region.ready md ops listed).contains i=true:=by kernel_rfl)
 (hQ:∀c a w,Q (.panic c) (a.put oi.dst undef) w->Q (.panic c) a w:=by exact fun _ _ _ h=>h) (h:ZPk is P md ops Q S z fuel (listed.setIfInBounds i true) (a.put oi.dst undef) w):ZPk (i::is) P md ops Q S z (fuel+1) listed a w:=Qhy hz hi hs hiz hf hr hQ (.inr ⟨hw,rfl⟩) hS h
end
end Go.Proofs.YtajbldnhjpjghaaGreatDoor
namespace Go.Proofs.YtajbldnhjpjghaaGreatDoor.Gen
open ChangeShapes WideShapes ChangeAt RowKit Joins Deep Base
structure By where
  n:Int
instance:Inhabited By:=⟨⟨0⟩⟩
instance:Cel By where
  k:=1
  cs x:= [.int .u8 x.n]
  len _:=rfl
  one x u hu:=by simp at hu;subst hu;rfl
def By.right (x:By):Prop:=0<=x.n/\x.n<=255
theorem In.getBy {w:World} {b o:Nat} {l:List By} (h:In w b o l) (i:Nat) (hi:i<l.length):w.cell? ⟨b,o+i,none⟩=some (.int .u8 l[i].n):=by
 have:=h.cell i hi (f:=0) rfl;rwa [show(Cel.k By)=1 from rfl,Nat.mul_one,Nat.add_zero]at this
structure Drawn (W:World) (C:Nat) (A:Option Addr) (cap:Nat) (l:List By):Prop where
  cur:∃(i:Nat) (h:Int),i<=l.length/\Blk W C 54 (Qf7 A l.length cap (i:Int) h)
  code:l= []∨∃b o,A=some ⟨b,o,none⟩/\b<C/\In W b o l
  len:l.length<=1048576
  byte:∀x∈l,x.right
theorem Drawn.lt {W:World} {C cap:Nat} {A:Option Addr} {l:List By} (h:Drawn W C A cap l):C<W.heap.size:=by
 obtain⟨i,x,_,hb⟩:=h.cur;exact hb.lt
theorem Drawn.below {W W' :World} {C cap:Nat} {A:Option Addr} {l:List By} (h:Drawn W C A cap l) (g:Below W.heap.size W W'):Drawn W' C A cap l:=by
 have hlt:=h.lt;refine⟨?_,h.code.imp id fun⟨b,o,e,hb,hi⟩=>⟨b,o,e,hb,hi.below (by omega) g⟩,h.len,h.byte⟩;obtain⟨i,x,hi,hb⟩:=h.cur;exact⟨i,x,hi,hb.below g hb.lt⟩
theorem Drawn.only {W W' :World} {C cap c:Nat} {A:Option Addr} {l:List By} (h:Drawn W C A cap l) (k:Only c W W') (hc:C<c):Drawn W' C A cap l:=by
 have hlt:=h.lt;refine⟨?_,h.code.imp id fun⟨b,o,e,hb,hi⟩=>⟨b,o,e,hb,hi.only k (by omega) (by omega)⟩,h.len,h.byte⟩;obtain⟨i,x,hi,hb⟩:=h.cur;exact⟨i,x,hi,hb.only k (by omega)⟩
theorem Only.trans {c:Nat} {a b d:World} (h:Only c a b) (k:Only c b d):Only c a d:=
 ⟨k.os.trans h.os,k.tape.trans h.tape,k.output.trans h.output,Nat.le_trans h.size k.size,fun i hi hb=>(k.block i (Nat.lt_of_lt_of_le hi h.size) hb).trans (h.block i hi hb)⟩
theorem Only.of_below {c:Nat} {a b:World} (h:Below a.heap.size a b):Only c a b:=(Only.refl c a).below h
theorem Only.drew {c:Nat} {a b:World} (h:Only c a b):Only c a b.drew:=⟨h.os,h.tape,h.output,h.size,h.block⟩
theorem and255 (x:Int):0<=bits .and .i64 x 255/\bits .and .i64 x 255<=255:=by
 have h:(BitVec.ofInt 64 x&&& BitVec.ofInt 64 255).toNat<=255:=by rw[BitVec.toNat_and];exact Nat.le_trans Nat.and_le_right (by decide)
 show 0<=IntKind.i64.wrap (((BitVec.ofInt 64 x&&& BitVec.ofInt 64 255).toNat:Nat):Int)/\IntKind.i64.wrap (((BitVec.ofInt 64 x&&& BitVec.ofInt 64 255).toNat:Nat):Int)<=255;generalize (BitVec.ofInt 64 x&&& BitVec.ofInt 64 255).toNat=m at*;rw[IntKind.wrap_i64];omega
theorem Qfk (C:Nat) (A:Option Addr) (cap:Nat) (l:List By) (w:World) (hD:Drawn w C A cap l):
 Calls Tryz.prog 51 #[.pointer (some ⟨C,0,none⟩)] w fun e w' =>∃x:Int,e= .returned (.int .i64 x)/\0<=x/\x<=255/\Only C w w' /\Drawn w' C A cap l:=by
 obtain⟨⟨i,h,hi,p⟩,hcode,hlen,hby⟩:=hD;have Hcode:=hidP hcode;have Hby:=hidP hby;clear hcode hby;obtain⟨c0,c1,c2⟩:=p.row3;have f1:=p.thaw 1;have f2:=p.thaw 2;go_enter Tryz.func51,Tryz.ntmps51;go_wp2_with fail;have P1:Blk _ C 54 (Qf7 A l.length cap (i:Int) (wrap64 (wrap64 (h*6364136223846793005)+1442695040888963407))):=p.setAt 2 (.int .i64 (wrap64 (wrap64 (h*6364136223846793005)+1442695040888963407)));have O1:=hidP ((Only.refl C w).set 2 (.int .i64 (wrap64 (wrap64 (h*6364136223846793005)+1442695040888963407))));have C1:Hid (l= []∨∃b o,A=some ⟨b,o,none⟩/\b<C/\In (w.setCell ⟨C,2,none⟩ (.int .i64 (wrap64 (wrap64 (h*6364136223846793005)+1442695040888963407)))) b o l):=Hcode.out.imp id fun⟨b,o,e,hb,hi⟩=>⟨b,o,e,hb,hi.set ⟨C,2,none⟩ _ (Nat.ne_of_gt hb)⟩
 generalize wrap64 (wrap64 (h*6364136223846793005)+1442695040888963407)=h' at*;generalize w.setCell ⟨C,2,none⟩ (.int .i64 h')=W1 at*;clear c0 c1 c2 f1 f2 p Hcode;obtain⟨c0,c1,c2⟩:=P1.row3;have f1:=P1.thaw 1;have hq:=P1.lt
 go_region_held3 (fun w' =>w'.cell? ⟨C,0,none⟩=some (.slice A l.length cap)/\w'.cell? ⟨C,1,none⟩=some (.int .i64 (i:Int))/\w'.cell? ⟨C,2,none⟩=some (.int .i64 h')) (first|exact⟨c0,c1,c2⟩|go_keep) (fail)
 obtain⟨x,hx⟩:∃x,x=bits BinOp.and IntKind.i64 (bits BinOp.xor IntKind.i64 (h' / 8589934592) (h' / 35184372088832)) 255:=⟨_,rfl⟩
 have hx0:=and255 (bits BinOp.xor IntKind.i64 (h' / 8589934592) (h' / 35184372088832));rw[← hx]at hx0;rw[← hx];clear hx;go_wp2_with fail;have hi0:(0:Int)<=(i:Int):=by omega
 by_cases hlt:i<l.length
 . have hi1:(i:Int)<(l.length:Int):=(by omega);obtain⟨b,o,rfl,hb,hin⟩:∃b o,A=some ⟨b,o,none⟩/\b<C/\In W1 b o l:=C1.out.resolve_left (fun h=>by rw[h]at hlt;simp at hlt);have cx:=hin.getBy i hlt;have hby:=Hby.out l[i] (List.getElem_mem hlt);obtain⟨hb0,hb1⟩:=hby;generalize hy:l[i].n=y at*;clear hy
   go_region_held3 (fun w' =>w'.cell? ⟨C,0,none⟩=some (.slice (some ⟨b,o,none⟩) l.length cap)/\w'.cell? ⟨C,1,none⟩=some (.int .i64 (i:Int))/\w'.cell? ⟨C,2,none⟩=some (.int .i64 h')) (first|exact⟨c0,c1,c2⟩|go_keep) (fail)
   go_wp2_with fail
   go_region_held3 (fun w' =>w'.cell? ⟨C,0,none⟩=some (.slice (some ⟨b,o,none⟩) l.length cap)/\w'.cell? ⟨C,1,none⟩=some (.int .i64 (i:Int))/\w'.cell? ⟨C,2,none⟩=some (.int .i64 h')/\w'.cell? ⟨b,o+i,none⟩=some (.int .u8 y)) (first|exact⟨c0,c1,c2,cx⟩|go_keep) (fail)
   have hx1:=and255 (IntKind.i64.wrap (x+IntKind.i64.wrap y));generalize bits BinOp.and IntKind.i64 (IntKind.i64.wrap (x+IntKind.i64.wrap y)) 255=x1 at*;have P2:=P1.drew.drew.drew;have O2:Hid (Only C w W1.drew.drew.drew):=O1.out.drew.drew.drew;have C2:Hid (l= []∨∃b' o',some (⟨b,o,none⟩:Addr)=some ⟨b',o',none⟩/\b' <C/\In W1.drew.drew.drew b' o' l):=C1.out;generalize W1.drew.drew.drew=W2 at*;clear c0 c1 c2 f1 cx hin;obtain⟨c0,c1,c2⟩:=P2.row3;have f1:=P2.thaw 1;have hi2:(i:Int)<=1048576:=(by omega);go_wp2;go_ret;have P3:Blk _ C 54 (Qf7 (some ⟨b,o,none⟩) l.length cap ((i+1:Nat):Int) h'):=P2.setAt 1 (.int .i64 ((i+1:Nat):Int));exact⟨x1,rfl,hx1.1,hx1.2,O2.out.set _ _,⟨i+1,h',by omega,P3⟩,C2.out.imp id fun⟨b',o',e,hb',hi'⟩=>⟨b',o',e,hb',hi'.set ⟨C,1,none⟩ _ (Nat.ne_of_gt hb')⟩,hlen,Hby.out⟩
 . go_region_held3 (fun w' =>w'.cell? ⟨C,0,none⟩=some (.slice A l.length cap)/\w'.cell? ⟨C,1,none⟩=some (.int .i64 (i:Int))/\w'.cell? ⟨C,2,none⟩=some (.int .i64 h')) (first|exact⟨c0,c1,c2⟩|go_keep) (fail)
   go_wp2;go_ret;exact⟨x,rfl,hx0.1,hx0.2,O1.out.drew.drew,⟨i,h',hi,P1.drew.drew⟩,C1.out,hlen,Hby.out⟩
theorem Qbc (C:Nat) (A:Option Addr) (cap:Nat) (l:List By) (n:Int) (h1:1<=n) (h2:n<=256) (w:World) (hD:Drawn w C A cap l):
 Calls Tryz.prog 22 #[.pointer (some ⟨C,0,none⟩),.int .i64 n] w fun e w' =>∃x:Int,e= .returned (.int .i64 x)/\0<=x/\x<n/\Only C w w' /\Drawn w' C A cap l:=by
 have HD:=hidP hD;clear hD;have hn:¬n<=0:=by omega
 have hz:¬n=0:=by omega
 go_enter Tryz.func22,Tryz.ntmps22;go_wp2_with fail;refine(Qfk C A cap l _ HD.out).mono ?_;rintro e w1 ⟨x,rfl,hx0,hx1,k1,d1⟩;have hm0:0<=x % n:=Int.emod_nonneg _ hz;have hm1:x % n<n:=Int.emod_lt_of_pos _ (by omega);have hk:=hidP k1;have hd:=hidP d1;clear k1 d1;go_wp2;go_ret;exact⟨x % n,rfl,hm0,hm1,hk.out,hd.out⟩
theorem once_any (C:Nat) (A:Option Addr) (cap:Nat) (l:List By) (n:Int) (h1:1<=n) (h2:n<=256) (w:World) (hD:Drawn w C A cap l):
 Calls Tryz.prog 94 #[.pointer (some ⟨C,0,none⟩),.int .i64 n] w fun e w' =>∃x:Bool,e= .returned (.bool x)/\Only C w w' /\Drawn w' C A cap l:=by
 have HD:=hidP hD;clear hD;go_enter Tryz.func94,Tryz.ntmps94;go_wp2_with fail;refine(Qbc C A cap l n h1 h2 _ HD.out).mono ?_;rintro e w1 ⟨x,rfl,hx0,hx1,k1,d1⟩;have hk:=hidP k1;have hd:=hidP d1;clear k1 d1;go_wp2;go_ret;exact⟨_,rfl,hk.out,hd.out⟩
structure Nu where
  n:Int
instance:Inhabited Nu:=⟨⟨0⟩⟩
instance:Cel Nu where
  k:=1
  cs x:= [.int .i64 x.n]
  len _:=rfl
  one x u hu:=by simp at hu;subst hu;rfl
theorem In.getNu {w:World} {b o:Nat} {l:List Nu} (h:In w b o l) (i:Nat) (hi:i<l.length):w.cell? ⟨b,o+i,none⟩=some (.int .i64 l[i].n):=by
 have:=h.cell i hi (f:=0) rfl;rwa [show(Cel.k Nu)=1 from rfl,Nat.mul_one,Nat.add_zero]at this
theorem Qd1 (C:Nat) (A:Option Addr) (cap:Nat) (l:List By) (b o c:Nat) (ns:List Nu) (h1:1<=ns.length) (h2:ns.length<=256) (w:World) (hD:Drawn w C A cap l) (hb:b<w.heap.size) (hbC:b≠C) (hin:In w b o ns):
 Calls Tryz.prog 23 #[.pointer (some ⟨C,0,none⟩),.slice (some ⟨b,o,none⟩) ns.length c] w fun e w' =>∃x∈ns,e= .returned (.int .i64 x.n)/\Only C w w' /\Drawn w' C A cap l:=by
 have HD:=hidP hD;have Hin:=hidP hin;clear hD hin;go_enter Tryz.func23,Tryz.ntmps23;go_wp2_with fail;refine(Qbc C A cap l ns.length (by omega) (by omega) _ HD.out).mono ?_;rintro e w1 ⟨x,rfl,hx0,hx1,k1,d1⟩;obtain⟨j,rfl⟩:∃j:Nat,x=(j:Int):=⟨x.toNat,by omega⟩
 have hj:j<ns.length:=by omega
 have cx:=(Hin.out.only k1 hb hbC).getNu j hj;have hk:=hidP k1;have hd:=hidP d1;clear k1 d1;go_wp2;go_ret;exact⟨ns[j],List.getElem_mem hj,rfl,hk.out,hd.out⟩
theorem new_any (A:Option Addr) (cap:Nat) (l:List By) (hl:l.length<=1048576) (hby:∀x∈l,x.right) (w:World) (hA:At w A l):
 Calls Tryz.prog 10 #[.slice A l.length cap] w fun e w' =>∃C,e= .returned (.pointer (some ⟨C,0,none⟩))/\w.heap.size<=C/\Below w.heap.size w w' /\Drawn w' C A cap l:=by
 have HA:=hidP hA;have Hby:=hidP hby;clear hA hby;go_enter Tryz.func10,Tryz.ntmps10;go_wp2
 go_loopw [3,4] (fun h i w' =>∃(x:Int) (n:Nat),h= .int .i64 x/\i= .int .i64 (n:Int)/\n<=l.length/\n<=4000/\w' =w) (fun _ i _=>4000 - (intOf i).toNat)
 case atStart=>exact⟨_,0,rfl,rfl,by omega,by omega,rfl⟩
 case round=>
  obtain⟨x,n,rfl,rfl,hn,hn',rfl⟩:=hrel;have fin:∀y:Int,Hid (Drawn (wr.alloc (.cells (Qf7 A l.length cap 0 y) 54)) wr.heap.size A cap l):=fun y=>
   ⟨⟨0,y,Nat.zero_le _,Blk.new wr _ _⟩,HA.out.imp id fun⟨b,o,e,hb,hi⟩=>⟨b,o,e,hb,hi.below hb (Qad (Below.refl _ _) _)⟩,hl,Hby.out⟩
  have Fin:=hidP fin;clear fin;by_cases hc:n<l.length/\n<4000
  . obtain⟨h1,h2⟩:=hc;obtain⟨b,o,rfl,hb,hin⟩:∃b o,A=some ⟨b,o,none⟩/\b<wr.heap.size/\In wr b o l:=HA.out.resolve_left (fun h=>by rw[h]at h1;simp at h1);have cx:=hin.getBy n h1;have hi0:(0:Int)<=(n:Int):=(by omega);have hi1:(n:Int)<(l.length:Int):=(by omega);have hi2:(n:Int)<4000:=(by omega);go_wp2;exact⟨⟨_,n+1,rfl,by go_num,by omega,by omega,by first|trivial|rfl⟩,by simp[intOf];omega⟩
  . by_cases h1:n<l.length
    . have h2:¬n<4000:=fun h=>hc ⟨h1,h⟩
      have hi1:(n:Int)<(l.length:Int):=(by omega);have hi2:¬(n:Int)<4000:=(by omega);go_wp2;go_ret;exact⟨_,rfl,Nat.le_refl _,Qad (Below.refl _ _) _,(Fin.out _).out⟩
    . have hi1:¬(n:Int)<(l.length:Int):=(by omega);go_wp2;go_ret;exact⟨_,rfl,Nat.le_refl _,Qad (Below.refl _ _) _,(Fin.out _).out⟩
structure St where
  s:ByteArray
instance:Inhabited St:=⟨⟨⟨#[]⟩⟩⟩
instance:Cel St where
  k:=1
  cs x:= [.string x.s]
  len _:=rfl
  one x u hu:=by simp at hu;subst hu;rfl
theorem In.getSt {w:World} {b o:Nat} {l:List St} (h:In w b o l) (i:Nat) (hi:i<l.length):w.cell? ⟨b,o+i,none⟩=some (.string l[i].s):=by
 have:=h.cell i hi (f:=0) rfl;rwa [show(Cel.k St)=1 from rfl,Nat.mul_one,Nat.add_zero]at this
theorem pickS_any (C:Nat) (A:Option Addr) (cap:Nat) (l:List By) (b o c:Nat) (ns:List St) (h1:1<=ns.length) (h2:ns.length<=256) (w:World) (hD:Drawn w C A cap l) (hb:b<w.heap.size) (hbC:b≠C) (hin:In w b o ns):
 Calls Tryz.prog 112 #[.pointer (some ⟨C,0,none⟩),.slice (some ⟨b,o,none⟩) ns.length c] w fun e w' =>∃x∈ns,e= .returned (.string x.s)/\Only C w w' /\Drawn w' C A cap l:=by
 have HD:=hidP hD;have Hin:=hidP hin;clear hD hin;go_enter Tryz.func112,Tryz.ntmps112;go_wp2_with fail;refine(Qbc C A cap l ns.length (by omega) (by omega) _ HD.out).mono ?_;rintro e w1 ⟨x,rfl,hx0,hx1,k1,d1⟩;obtain⟨j,rfl⟩:∃j:Nat,x=(j:Int):=⟨x.toNat,by omega⟩
 have hj:j<ns.length:=by omega
 have cx:=(Hin.out.only k1 hb hbC).getSt j hj;have hk:=hidP k1;have hd:=hidP d1;clear k1 d1;go_wp2;go_ret;exact⟨ns[j],List.getElem_mem hj,rfl,hk.out,hd.out⟩
def five:List St:= [⟨⟨#[]⟩⟩,⟨⟨#[97]⟩⟩,⟨⟨#[98]⟩⟩,⟨⟨#[107,32,49]⟩⟩,⟨⟨#[116,101,120,116]⟩⟩]
theorem five_right:∀x∈five,Items.textB x.s=true/\x.s.size<=30:=by
 intro x hx;simp only[five,List.mem_cons,List.not_mem_nil,or_false]at hx;rcases hx with rfl|rfl|rfl|rfl|rfl<;>exact⟨by decide+kernel,by decide⟩
theorem text_any (C:Nat) (A:Option Addr) (cap:Nat) (l:List By) (w:World) (hD:Drawn w C A cap l):
 Calls Tryz.prog 103 #[.pointer (some ⟨C,0,none⟩)] w fun e w' =>∃k:ByteArray,e= .returned (.string k)/\Items.textB k=true/\k.size<=30/\Only C w w' /\Drawn w' C A cap l:=by
 have HD:=hidP hD;have hC:=hD.lt;clear hD;have bx:=Blk.new w 9 (l1TTTTT ⟨#[]⟩ ⟨#[97]⟩ ⟨#[98]⟩ ⟨#[107,32,49]⟩ ⟨#[116,101,120,116]⟩);have hin:In (w.alloc (.cells (l1TTTTT ⟨#[]⟩ ⟨#[97]⟩ ⟨#[98]⟩ ⟨#[107,32,49]⟩ ⟨#[116,101,120,116]⟩) 9)) w.heap.size 0 five:=fun j u hu=>bx.cell (i:=0+j) (by simpa [flat,Cel.cs,five]using hu)
 have Hin:=hidP hin;clear hin bx;go_enter Tryz.func103,Tryz.ntmps103;go_wp2_with fail;refine(pickS_any C A cap l w.heap.size 0 5 five (by decide) (by decide) _ (HD.out.below (Qad (Below.refl _ _) _)) (by simp) (by omega) Hin.out).mono ?_;rintro e w1 ⟨x,hx,rfl,k1,d1⟩;have hk:=hidP ((Only.of_below (c:=C) (Qad (Below.refl _ w) _)).trans k1);have hd:=hidP d1;have hr:=hidP (five_right x hx);clear k1 d1;go_wp2;go_ret;exact⟨x.s,rfl,hr.out.1,hr.out.2,hk.out,hd.out⟩
end Go.Proofs.YtajbldnhjpjghaaGreatDoor.Gen
