/-
  The program's isRightItem and rowOf.ascends at this seat.
-/
import Derived.Test.YtpippjjhelgnlaaGreatCur7
set_option linter.unusedVariables false
set_option linter.unusedSimpArgs false
set_option maxRecDepth 100000
set_option maxHeartbeats 8000000
namespace Go.Proofs.YtpippjjhelgnlaaGreat.Items
open ChangeShapes WideShapes ChangeAt RowKit Shelf Base
def ascStep (next:Int) (s:Option Int) (x:It):Option Int:=s.bind fun m=>if x.off<m∨next<=x.off then none else some (wrap64 (x.off+1))
def ascF (next start:Int) (l:List It):Option Int:=l.foldl (ascStep next) (some start)
theorem Blk.item {W:World} {B:Nat} {t:TypeId} {a b c d e:Value} (h:Blk W B t #[a,b,c,d,e]):
 W.cell? ⟨B,0,none⟩=some a/\W.cell? ⟨B,1,none⟩=some b/\W.cell? ⟨B,2,none⟩=some c/\W.cell? ⟨B,3,none⟩=some d/\W.cell? ⟨B,4,none⟩=some e:=
 ⟨h.cell rfl,h.cell rfl,h.cell rfl,h.cell rfl,h.cell rfl⟩
theorem Blk.row {W:World} {B:Nat} {t:TypeId} {a b c:Value} (h:Blk W B t #[a,b,c]):
 W.cell? ⟨B,0,none⟩=some a/\W.cell? ⟨B,1,none⟩=some b/\W.cell? ⟨B,2,none⟩=some c:=
 ⟨h.cell rfl,h.cell rfl,h.cell rfl⟩
theorem Qeo (x:It) (w:World):Calls Tryz.prog 245 #[.agg (Qbi x.off x.key x.text x.who x.time)] w
 fun e w' =>e= .returned (.int .i64 x.off)/\w' =w.alloc (.cells (Qbi x.off x.key x.text x.who x.time) 150):=by
 go_enter Tryz.func245,Tryz.ntmps245;go_wp2;go_ret;exact⟨rfl,rfl⟩
end Go.Proofs.YtpippjjhelgnlaaGreat.Items
namespace Go.Proofs.YtpippjjhelgnlaaGreat.Items
open ChangeShapes WideShapes ChangeAt RowKit Shelf Base
attribute [local go_sem] Oper.semAt_some
theorem five (p q r s t:Bool):p=false∨(p=true/\q=false)∨(p=true/\q=true/\r=false)∨(p=true/\q=true/\r=true/\s=false)∨(p=true/\q=true/\r=true/\s=true/\t=false)∨(p=true/\q=true/\r=true/\s=true/\t=true):=by
 cases p<;>cases q<;>cases r<;>cases s<;>cases t<;>simp
def okB (start next:Int) (l:List It):Bool:=inB next 0 100000&&inB start 0 next&&decide ((l.length:Int)<=80)&&(ascF next start l).isSome&&l.all itemB
theorem Qho {a:Int} (h1:0<=a) (h2:a<=1000000):wrap64 a=a:=by unfold wrap64;omega
def ahead (p:Option Int) (x:Int):Bool:=match p with|none=>true|some o=>decide (o<x)
end Go.Proofs.YtpippjjhelgnlaaGreat.Items
namespace Go.Proofs.YtpippjjhelgnlaaGreat.Items
open ChangeShapes WideShapes ChangeAt RowKit Shelf Base
theorem Blk.thaw {W:World} {B:Nat} {t:TypeId} {vs:Array Value} (h:Blk W B t vs) (i:Nat):W.frozen? ⟨B,i,none⟩=false:=by simp[World.frozen?,show W.heap[B]? =_ from h]
theorem Blk.setAt {W:World} {B:Nat} {t:TypeId} {vs:Array Value} (h:Blk W B t vs) (i:Nat) (v:Value):Blk (W.setCell ⟨B,i,none⟩ v) B t (vs.setIfInBounds i v):=by
 obtain⟨hlt,hk⟩:=Array.getElem?_eq_some_iff.1 h;show(W.heap.modify B _)[B]? =_;rw[Array.getElem?_eq_getElem (by rw[Array.size_modify];exact hlt),Array.getElem_modify_self,hk];rfl
theorem Blk.drew {W:World} {B:Nat} {t:TypeId} {vs:Array Value} (h:Blk W B t vs):Blk W.drew B t vs:=h
theorem Qas {n:Nat} {a b:World} (h:Below n a b) {B i:Nat} (hn:n<=B) (v:Value):Below n a (b.setCell ⟨B,i,none⟩ v):=h.setCell (p:=⟨B,i,none⟩) hn v
end Go.Proofs.YtpippjjhelgnlaaGreat.Items
