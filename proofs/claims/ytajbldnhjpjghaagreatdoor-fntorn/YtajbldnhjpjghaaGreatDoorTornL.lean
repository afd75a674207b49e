/-
  FnTorn: the row and the card. Condition: the library's variable errors.errorType holds what the program's text lays (the card ties it).
-/
import Derived.Test.YtajbldnhjpjghaaGreatDoorTornW
import Derived.Test.YtajbldnhjpjghaaGreatDoorCards
import Derived.Test.YtajbldnhjpjghaaGreatDoorTie
import Derived.Deep.DeepHandedRow
set_option linter.unusedVariables false
set_option linter.unusedSimpArgs false
set_option maxRecDepth 100000
set_option maxHeartbeats 8000000
set_option maxRecDepth 100000
set_option maxHeartbeats 8000000
namespace Go.Proofs.YtajbldnhjpjghaaGreatDoor.TornX
open ChangeShapes WideShapes ChangeAt RowKit Joins Deep Base Gen
theorem own:ownKnob Tryz.prog.godebug=none:=by kernel_rfl
theorem laidOut:laidOutB Tryz.prog=true:=by kernel_rfl
theorem cellsU8:Tryz.prog.cellsOf 5=1:=by kernel_rfl
theorem openBy {H:Type} {enc:TypeId × Value->H} {w:World} {base n:Nat} {spare:Nat->Bool} {held:Bool} {a:Addr} {cs:List Value} {y:DataW H × List MemPlace}
 (h1:w.cells? base a 1=some cs) (h2:DataW.trod enc Tryz.prog w base spare held n 5 cs=some y):
 ∃x:By,x.right/\a.spot=none/\a.block<w.heap.size/\∀j v,(Cel.cs x)[j]? =some v->w.cell? ⟨a.block,a.off+j,none⟩=some v:=by
 obtain⟨_,hlen,hc⟩:=World.cells?_some h1
 match cs,hlen with
 | [c0],_=>
  obtain⟨x,e0,_,w0⟩:=DataW.trod_int Tryz.underlying5 h2;simp at e0;subst e0;have q0:=hc 0 (by omega);have hsp:a.spot=none:=by
   cases hs:a.spot with
   |none=>rfl
   |some s=>exfalso;simp[Addr.add,World.cell?,hs]at q0;split at q0<;>simp at q0
  have hlt:a.block<w.heap.size:=by
   rw[show a.add 0=a from rfl]at q0;unfold World.cell? at q0;cases hh:w.heap[a.block]? with
   |none=>simp[hh]at q0
   |some ob=>exact(Array.getElem?_eq_some_iff.1 hh).1
  refine⟨⟨x⟩,by simpa [By.right,Lit.wf,IntKind.min,IntKind.max,IntKind.signed,IntKind.bits]using w0,hsp,hlt,?_⟩;intro j v hv;have hj:j<1:=(List.getElem?_eq_some_iff.1 hv).1;have q:=hc j hj;have e:a.add j=⟨a.block,a.off+j,none⟩:=by
   obtain⟨b,o,s⟩:=a;simp only at hsp;subst hsp;exact Addr.add_mid b o j
  rw[e]at q;rw[q];exact hv
theorem openBytes {H:Type} {enc:TypeId × Value->H} {W:World} {base b0:Nat} {r:Reach} {spare:Nat->Bool} {held:Bool} {v:Value} {d:DataW H} {p:List MemPlace}
 (hv:Value.okWide Tryz.prog W r b0 22 v) (h:DataW.Trod enc Tryz.prog W base spare held 22 v d p):
 ∃(A:Option Addr) (cap:Nat) (l:List By),v= .slice A l.length cap/\l.length<=9223372036854775807/\(∀x∈l,x.right)/\At W A l:=by
 obtain⟨a0,len0,cap0,rfl⟩:=okWide_slice Tryz.underlying22 hv;obtain⟨n,g⟩:=h;rcases open_slice Tryz.underlying22 g with⟨e2,_⟩|⟨a,len,cap,m,n',D,Pl,e2,_,hl,hm,hmm,_,hx⟩
 . simp[Value.cells]at e2;obtain⟨rfl,rfl,rfl⟩:=e2;exact⟨none,0,[],rfl,by simp,by simp,.inl rfl⟩
 . simp[Value.cells]at e2;obtain⟨rfl,rfl,rfl⟩:=e2;have hle:len0<=m:=(by rw[hmm];split<;>omega);rw[cellsU8]at hx;obtain⟨X,hX⟩:=choose_lt (α:=By) (p:=fun i x=>x.right/\(a.add (i*1)).spot=none/\(a.add (i*1)).block<W.heap.size/\∀j v,(Cel.cs x)[j]? =some v->W.cell? ⟨(a.add (i*1)).block,(a.add (i*1)).off+j,none⟩=some v)
    (n:=len0) (fun i hi=>by obtain⟨cs',h1,h2⟩:=hx i (by omega);exact openBy h1 h2)
   obtain⟨l,rfl,hR,hat⟩:=at_of (α:=By) (by decide) (R:=By.right) hX;exact⟨some a,cap0,l,rfl,by simp[maxLen]at hm ⊢;omega,hR,hat⟩
theorem et:Tryz.prog.globalNamed "errors.errorType" =some 0:=by kernel_rfl
theorem rt:(Tryz.prog.cutTypes.find? (·.1== "internal/reflectlite.rtype")).map (·.2)=some 127:=by kernel_rfl
theorem oneRow:((List.range 247).filter fun t=>Tryz.prog.rowNamed t [101,114,114,111,114])= [40]:=by kernel_rfl
theorem tsize:Tryz.prog.types.size=247:=by kernel_rfl
theorem Qht {W:World} (h:laidMetH Tryz.prog Rows.fnTornRow.laid W):W.cell? ⟨0,0,none⟩=some (.iface 127 (.agg #[.pointer (some ⟨1,40,none⟩)])):=by
 have h' :laidMet Tryz.prog [] W/\handlesMet Tryz.prog Rows.fnTornRow.laid W:=h;obtain⟨name,u,ty,e1,e2,e3,e4,e5⟩:=h'.2 _ (List.mem_singleton.2 rfl);have en:name= [101,114,114,111,114]:=(Option.some.inj e1).symm;subst en;obtain rfl:=Option.some.inj (rt.symm.trans e2);have hm:ty∈(List.range 247).filter fun t=>Tryz.prog.rowNamed t [101,114,114,111,114]:=List.mem_filter.2 ⟨List.mem_range.2 (by rw[← tsize];exact e3),e4⟩
 rw[oneRow]at hm;obtain rfl:=List.mem_singleton.1 hm;have hh:typeHandle Tryz.prog 40= .pointer (some ⟨1,40,none⟩):=by kernel_rfl
 rw[hh]at e5;simpa using World.var?_cell et e5 0
theorem contract (H:Type) (enc:TypeId × Value->H) (W:World) (base:Nat) (args:Array Value) (ds gs:List (DataW H)) (before:List MemPlace)
 (hval:∀(j:Nat) t v,Tryz.f3.params[j]? =some t->args[j]? =some v->Value.okWide Tryz.prog W .any base t v)
 (hW:DataW.Whole enc Tryz.prog Tryz.f3.params.toList Rows.fnTornSpec.vars false W args.toList ds gs before) (hL:laidMetH Tryz.prog Rows.fnTornRow.laid W):
 Calls Tryz.prog 3 args W fun e W' =>∃v,e= .returned v/\Rows.fnTornSpec.post enc Tryz.prog Tryz.f3 false true false false W args v W' :=by
 have hW' :=hW;obtain⟨p,q,hA0,hV,rfl,hfz,hnd⟩:=hW;have hA:DataW.TrodAll enc Tryz.prog W 0 (fun _=>true) true Tryz.f3.params.toList args.toList ds p:=hA0;rw[Tryz.params3]at hA hval;obtain⟨v0,vs0,d0,ds0,p0,q0,e0,rfl,rfl,h0,r0⟩:=trodAll_cons hA;obtain⟨rfl,rfl,rfl⟩:=trodAll_nil r0;have e0' :args= #[v0]:=by cases args;simp_all
 subst e0';obtain⟨rfl,rfl⟩:=trodVars_none hV;obtain⟨A,cap,l,rfl,hl,hby,hat⟩:=openBytes (hval 0 22 v0 rfl rfl) h0;refine(law_any A cap l hl hby W hat (Qht hL)).mono fun e W' ⟨he,hb⟩=> ?_
 subst he;exact⟨_,rfl,post_true laidOut (by kernel_rfl) (by kernel_rfl) Tryz.underlying4 rfl rfl hW' hb⟩
def laidIn (P:Program) (os:Os):World:=
  {World.holding P os ⟨#[],#[],[]⟩with heap:=(World.holding P os ⟨#[],#[],[]⟩).heap.modify 0 fun
      | .cells _ t frozen=> .cells #[.iface 127 (.agg #[.pointer (some ⟨1,40,none⟩)])] t frozen
      |o=>o}
theorem laid_met (os:Os):laidMetH Tryz.prog Rows.fnTornRow.laid ((laidIn Tryz.prog os).forCall (fun _ _=>0) ⟨#[],#[.slice none 0 0],[]⟩).memory:=
 laidMetH_of_parts (laidMet_nil _ _) (by kernel_rfl)
theorem reads (os:Os) {H:Type} (enc:TypeId × Value->H):∃d places,DataW.whole enc Tryz.prog ((laidIn Tryz.prog os).forCall (fun _ _=>0) ⟨#[],#[.slice none 0 0],[]⟩).memory Tryz.f3.params.toList Rows.fnTornSpec.vars false #[Value.slice none 0 0].toList 8=some ([d],[],places):=
 ⟨.nil,[],by kernel_rfl⟩
theorem lifted (os:Os) (started:os.Started) (H:Type) (enc:TypeId × Value->H) (F:Stop.Interp):
 ReturnsInHanded {} Tryz.checked os 3 .any ((OpenSpec.ofChange Rows.fnTornSpec).preRow enc Tryz.prog Tryz.f3 Rows.fnTornRow.domain false Rows.fnTornRow.laid) (((OpenSpec.ofChange Rows.fnTornSpec).at F).post enc Tryz.prog Tryz.f3 false true false false):=by
 obtain⟨d,places,hx⟩:=reads os enc;refine returnsInHanded_of_row (C:=Tryz.checked) (s:=OpenSpec.ofChange Rows.fnTornSpec) own started (by kernel_rfl) Tryz.func3
  (witness_row_at (enc:=enc) (C:=Tryz.checked) false (laidIn Tryz.prog os) #[.slice none 0 0] rfl (by kernel_rfl) (by kernel_rfl) (by kernel_rfl)
   (OpenSpec.preRow_of_cond 8 hx (by kernel_rfl) (fun k hk=>by cases hk) (by kernel_rfl) (laid_met os))) ?_
 intro W base args ds gs before hval hW _ _ _ hL _ _;exact contract H enc W base args ds gs before hval hW hL
theorem said:Rows.FnTornSaid:=
 OpenClaim.holds_of_cond 3 Tryz.f3 rfl rfl rfl rfl rfl rfl rfl ⟨rfl,rfl,rfl,rfl,rfl⟩ rfl rfl rfl rfl rfl (by kernel_rfl) Tryz.func3 (by kernel_rfl)
  (of_decide_eq_true (by kernel_rfl)) (by unfold Func.isWrapper;first|(rw[if_pos (by decide+kernel)];kernel_rfl)|(rw[if_neg (by decide+kernel)];exact⟨rfl,rfl⟩))
  (fun os started H enc _ F=>by rw[OpenClaim.pre_eq_preRow];exact lifted os started H enc F)
theorem plain (f:FuncId) (fn:Func) (hf:Tryz.pinned.checked.prog.funcNamed "loop.example/g00393/laws.FnTorn" =some f) (hfn:Tryz.pinned.checked.prog.funcs[f]? =some fn):
 true=Tryz.pinned.checked.prog.looks []/\∀(j:Nat) t,fn.params[j]? =some t->Tryz.pinned.checked.prog.wantsStandIn t=false:=by
 obtain rfl:f=3:=Option.some.inj ((show Tryz.prog.funcNamed "loop.example/g00393/laws.FnTorn" =some 3 by kernel_rfl).symm.trans hf) |>.symm;obtain rfl:fn=Tryz.f3:=(Option.some.inj (Tryz.func3.symm.trans hfn)).symm;refine⟨by kernel_rfl,fun j t ht=> ?_⟩;rw[Tryz.params3]at ht;obtain rfl:t=22:=by simpa using Array.mem_of_getElem? ht
 exact(show Tryz.prog.wantsStandIn 22=false by kernel_rfl)
theorem card:Rows.FnTornCardSaid:=
 Claim7.holds_tied_plain_at .later [] _ _ _ _ said (fun _ h=>by cases h) (by kernel_rfl) (fun _ h=>by cases h) fnTorn_row_tie rfl ⟨rfl,rfl⟩ (by kernel_rfl) rfl plain (by kernel_rfl)
end Go.Proofs.YtajbldnhjpjghaaGreatDoor.TornX
namespace Go.Proofs.YtajbldnhjpjghaaGreatDoor
theorem torn_holds:Rows.FnTornCardSaid:=TornX.card
end Go.Proofs.YtajbldnhjpjghaaGreatDoor
