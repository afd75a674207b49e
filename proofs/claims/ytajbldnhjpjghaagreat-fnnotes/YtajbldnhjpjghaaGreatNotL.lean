/-
  FnNotes: the row. No condition.
-/
import Derived.Test.YtajbldnhjpjghaaGreatNotW
set_option linter.unusedVariables false
set_option linter.unusedSimpArgs false
set_option maxRecDepth 100000
set_option maxHeartbeats 8000000
set_option maxRecDepth 100000
set_option maxHeartbeats 8000000
namespace Go.Proofs.YtajbldnhjpjghaaGreat.NotX
open ChangeShapes WideShapes ChangeAt RowKit Joins Deep Base Gen
theorem Qsn:Tryz.prog.cellsOf 5=1:=by kernel_rfl
theorem Qs0 {H:Type} {enc:TypeId × Value->H} {w:World} {base n:Nat} {spare:Nat->Bool} {held:Bool} {a:Addr} {cs:List Value} {y:DataW H × List MemPlace}
 (h1:w.cells? base a 1=some cs) (h2:DataW.trod enc Tryz.prog w base spare held n 5 cs=some y):
 ∃x:By,x.right/\a.spot=none/\a.block<w.heap.size/\∀j v,(Cel.cs x)[j]? =some v->w.cell? ⟨a.block,a.off+j,none⟩=some v:=by
 obtain⟨_,hlen,hc⟩:=World.cells?_some h1
 match cs,hlen with
 | [c0],_=>
  obtain⟨x,e0,_,w0⟩:=DataW.trod_int Tryz.underlying5 h2;simp at e0;subst e0;have q0:=hc 0 (by omega);have hsp:a.spot=none:=by
   cases hs:a.spot with
   |none=>rfl
   |some s=>exfalso;simp[Addr.add,World.cell?,hs]at q0;split at q0<;>simp at q0
  have hlt:a.block<w.heap.size:=by
   rw[show a.add 0=a from rfl]at q0;unfold World.cell? at q0;cases hh:w.heap[a.block]? with
   |none=>simp[hh]at q0
   |some ob=>exact(Array.getElem?_eq_some_iff.1 hh).1
  refine⟨⟨x⟩,by simpa [By.right,Lit.wf,IntKind.min,IntKind.max,IntKind.signed,IntKind.bits]using w0,hsp,hlt,?_⟩;intro j v hv;have hj:j<1:=(List.getElem?_eq_some_iff.1 hv).1;have q:=hc j hj;have e:a.add j=⟨a.block,a.off+j,none⟩:=by
   obtain⟨b,o,s⟩:=a;simp only at hsp;subst hsp;exact Addr.add_mid b o j
  rw[e]at q;rw[q];exact hv
theorem Qn3 {H:Type} {enc:TypeId × Value->H} {W:World} {base b0:Nat} {r:Reach} {spare:Nat->Bool} {held:Bool} {v:Value} {d:DataW H} {p:List MemPlace}
 (hv:Value.okWide Tryz.prog W r b0 22 v) (h:DataW.Trod enc Tryz.prog W base spare held 22 v d p):
 ∃(A:Option Addr) (cap:Nat) (l:List By),v= .slice A l.length cap/\l.length<=9223372036854775807/\(∀x∈l,x.right)/\At W A l:=by
 obtain⟨a0,len0,cap0,rfl⟩:=okWide_slice Tryz.underlying22 hv;obtain⟨n,g⟩:=h;rcases open_slice Tryz.underlying22 g with⟨e2,_⟩|⟨a,len,cap,m,n',D,Pl,e2,_,hl,hm,hmm,_,hx⟩
 . simp[Value.cells]at e2;obtain⟨rfl,rfl,rfl⟩:=e2;exact⟨none,0,[],rfl,by simp,by simp,.inl rfl⟩
 . simp[Value.cells]at e2;obtain⟨rfl,rfl,rfl⟩:=e2;have hle:len0<=m:=(by rw[hmm];split<;>omega);rw[Qsn]at hx;obtain⟨X,hX⟩:=choose_lt (α:=By) (p:=fun i x=>x.right/\(a.add (i*1)).spot=none/\(a.add (i*1)).block<W.heap.size/\∀j v,(Cel.cs x)[j]? =some v->W.cell? ⟨(a.add (i*1)).block,(a.add (i*1)).off+j,none⟩=some v)
    (n:=len0) (fun i hi=>by obtain⟨cs',h1,h2⟩:=hx i (by omega);exact Qs0 h1 h2)
   obtain⟨l,rfl,hR,hat⟩:=Que (α:=By) (by decide) (R:=By.right) hX;exact⟨some a,cap0,l,rfl,by simp[maxLen]at hm ⊢;omega,hR,hat⟩
theorem Qq2 (H:Type) (enc:TypeId × Value->H) (W:World) (base:Nat) (args:Array Value) (ds gs:List (DataW H)) (before:List MemPlace)
 (hval:∀(j:Nat) t v,Tryz.f3.params[j]? =some t->args[j]? =some v->Value.okWide Tryz.prog W .any base t v)
 (hW:DataW.Whole enc Tryz.prog Tryz.f3.params.toList Rows.fnNotesSpec.vars false W args.toList ds gs before):
 Calls Tryz.prog 3 args W fun e W' =>∃v,e= .returned v/\Rows.fnNotesSpec.post enc Tryz.prog Tryz.f3 false true false false W args v W' :=by
 have hW' :=hW;obtain⟨p,q,hA0,hV,rfl,hfz,hnd⟩:=hW;have hA:DataW.TrodAll enc Tryz.prog W 0 (fun _=>true) true Tryz.f3.params.toList args.toList ds p:=hA0;rw[Tryz.params3]at hA hval;obtain⟨v0,vs0,d0,ds0,p0,q0,e0,rfl,rfl,h0,r0⟩:=trodAll_cons hA;obtain⟨rfl,rfl,rfl⟩:=trodAll_nil r0;have e0' :args= #[v0]:=by cases args;simp_all
 subst e0';obtain⟨rfl,rfl⟩:=trodVars_none hV;obtain⟨A,cap,l,rfl,hl,hby,hat⟩:=Qn3 (hval 0 22 v0 rfl rfl) h0;refine(Qr9 A cap l hl hby W hat).mono fun e W' ⟨he,hb⟩=> ?_
 subst he;exact⟨_,rfl,Qnx Qoj (by kernel_rfl) (by kernel_rfl) Tryz.underlying4 rfl rfl hW' hb⟩
theorem Qtc (os:Os) (started:os.Started) (H:Type) (enc:TypeId × Value->H):
 ReturnsInHanded {} Tryz.checked os 3 .any (Rows.fnNotesSpec.pre6 enc Tryz.prog Tryz.f3 Rows.fnNotesRow.domain false) (Rows.fnNotesSpec.post enc Tryz.prog Tryz.f3 false true false false):=by
 refine returnsInHanded_of_change (C:=Tryz.checked) own started (by kernel_rfl) Tryz.func3
  (ChangeSpec.witness6 (enc:=enc) (C:=Tryz.checked) false ⟨#[],#[.slice none 0 0],[]⟩ 8 (by kernel_rfl) (by kernel_rfl) (by kernel_rfl) (by kernel_rfl)) ?_
 intro W base args ds gs before hval0 hW _ _;exact Qq2 H enc W base args ds gs before hval0 hW
theorem proved:Rows.FnNotesSaid:=
 OpenClaim.holds_of_wide 3 Tryz.f3 rfl rfl rfl rfl rfl rfl rfl ⟨rfl,rfl,rfl,rfl,rfl⟩ rfl rfl rfl rfl rfl (by kernel_rfl) Tryz.func3 (by kernel_rfl)
  (of_decide_eq_true (by kernel_rfl)) (by unfold Func.isWrapper;first|(rw[if_pos (by decide+kernel)];kernel_rfl)|(rw[if_neg (by decide+kernel)];exact⟨rfl,rfl⟩))
  (fun os started H enc _=>Qtc os started H enc)
end Go.Proofs.YtajbldnhjpjghaaGreat.NotX
namespace Go.Proofs.YtajbldnhjpjghaaGreat
theorem notesLaw_holds:Rows.FnNotesSaid:=NotX.proved
end Go.Proofs.YtajbldnhjpjghaaGreat
