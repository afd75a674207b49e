/-
  The program's row tells its items: rowOf.told, rowOf.toldFromBehind and their functions, for every loop that keeps what lay ahead.
-/
import Derived.RangeFuncNested
import Derived.RangeFuncBound
import Derived.Shelf.RegionOpen
import Derived.OwnWalkIn
import Derived.LoopNIn
import Derived.LoopIn
import Derived.Test.YtajbldnhjpjghaaGreatTried
set_option linter.unusedVariables false
set_option linter.unusedSimpArgs false
set_option maxRecDepth 100000
set_option maxHeartbeats 8000000
set_option maxRecDepth 100000
set_option maxHeartbeats 8000000
namespace Go.Proofs.YtajbldnhjpjghaaGreat.Items
open ChangeShapes WideShapes ChangeAt RowKit Shelf Base
attribute [local go_sem] Oper.semAt_some
abbrev Of (its:List It):Type:={x:It // x∈its}
def Blk (W:World) (B:Nat) (t:TypeId) (vs:Array Value):Prop:=W.heap[B]? =some (.cells vs t (0,0))
theorem Blk.lt {W:World} {B:Nat} {t:TypeId} {vs:Array Value} (h:Blk W B t vs):B<W.heap.size:=(Array.getElem?_eq_some_iff.1 h).1
theorem Blk.cell {W:World} {B:Nat} {t:TypeId} {vs:Array Value} (h:Blk W B t vs) {i:Nat} {v:Value} (hv:vs[i]? =some v):W.cell? ⟨B,i,none⟩=some v:=by simp[World.cell?,show W.heap[B]? =_ from h,hv]
theorem Blk.new (W:World) (t:TypeId) (vs:Array Value):Blk (W.alloc (.cells vs t)) W.heap.size t vs:=World.alloc_heap_new W _
theorem Blk.kept {W W' :World} {row:Option Nat} {B:Nat} {t:TypeId} {vs:Array Value} (h:Blk W B t vs) (hg:W.grownBy W' row) (hne:some B≠row):Blk W' B t vs:=(hg.block B h.lt hne).trans h
theorem Blk.alloc {W:World} {B:Nat} {t:TypeId} {vs:Array Value} (h:Blk W B t vs) (o:Obj):Blk (W.alloc o) B t vs:=h.kept (World.grownBy_alloc W o none) (by simp)
theorem Blk.other {W:World} {B B' :Nat} {t:TypeId} {vs:Array Value} (h:Blk W B t vs) (hne:B≠B') (i:Nat) (u:Value):Blk (W.setCell ⟨B',i,none⟩ u) B t vs:=by
 show(W.heap.modify B' _)[B]? =_;rw[Array.getElem?_modify,if_neg (Ne.symm hne)];exact h
theorem Blk.below {W W' :World} {n:Nat} {B:Nat} {t:TypeId} {vs:Array Value} (h:Blk W B t vs) (hb:Below n W W') (hn:B<n):Blk W' B t vs:=(hb.block B hn).trans h
def partB (k t:ByteArray) (who time:Int):Bool:=textB k&&textB t&&inB who 0 3&&inB time 0 100000
def itemB (x:It):Bool:=partB x.key x.text x.who x.time
theorem four (p q r s:Bool):p=false∨(p=true/\q=false)∨(p=true/\q=true/\r=false)∨(p=true/\q=true/\r=true/\s=false)∨(p=true/\q=true/\r=true/\s=true):=by
 cases p<;>cases q<;>cases r<;>cases s<;>simp
theorem Qi3 (off who time:Int) (k t:ByteArray) (hk:k.size<=9223372036854775807) (ht:t.size<=9223372036854775807) (w:World):
 Calls Tryz.prog 133 #[.agg (Qbs off k t who time)] w fun e w' =>e= .returned (.bool (partB k t who time))/\Below w.heap.size w w' :=by
 rcases four (textB k) (textB t) (inB who 0 3) (inB time 0 100000)with h1|⟨h1,h2⟩|⟨h1,h2,h3⟩|⟨h1,h2,h3,h4⟩|⟨h1,h2,h3,h4⟩
 all_goals
  go_enter Tryz.func133,Tryz.ntmps133;have q1:w.heap.size<w.heap.size+1:=Nat.lt_succ_self _;go_wp2_with (first
   |(go_at_call 35;refine(Qcf _ _ _ _).mono ?_;rintro e w' ⟨rfl,rfl⟩)
   |(go_at_call_of 82 (Value.string k);refine(Qdh k hk _).mono ?_;rintro e w1 ⟨rfl,g1⟩;obtain⟨c1,f1⟩:=Qeh g1;have s1:=g1.size;try simp at s1;have q1:w.heap.size<w1.heap.size:=by omega)
   |(go_at_call_of 82 (Value.string t);refine(Qdh t ht _).mono ?_;rintro e w1 ⟨rfl,g1⟩;obtain⟨c1,f1⟩:=Qeh g1;have s1:=g1.size;try simp at s1;have q1:w.heap.size<w1.heap.size:=by omega))
  go_ret;refine⟨by simp[partB, *],?_⟩
  repeat(first|exact Below.refl _ _|refine via0 (by assumption) ?_|refine Below.drew ?_|refine Qad ?_ _)
def Qfv (start nb:Int):Option Int->List It->Bool
  |_,[]=>true
  |p,x::l=>itemB x&&inB x.off start nb&&(match p with|none=>true|some o=>decide (o<x.off))&&Qfv start nb (some x.off) l
def Qkt (l:List It) (n:Nat):Option Int:=match n with
  |0=>none
  |p+1=>(l[p]?).map (·.off)
def Qa7 (start nb:Int) (l:List It) (n:Nat):Bool:=Qfv start nb (Qkt l n) (l.drop n)
theorem Qir {start nb:Int} {l:List It} {n:Nat} (h:l.length<=n):Qa7 start nb l n=true:=by
 unfold Qa7;rw[List.drop_eq_nil_of_le h];rfl
def ordB (l:List It) (n:Nat) (x:Int):Bool:=match Qkt l n with
  |none=>true
  |some o=>decide (o<x)
theorem Qhq {start nb:Int} {l:List It} {n:Nat} (h:n<l.length):
 Qa7 start nb l n=(itemB l[n]&&inB l[n].off start nb&&ordB l n l[n].off&&Qa7 start nb l (n+1)):=by
 have e2:Qkt l (n+1)=some l[n].off:=by simp[Qkt,List.getElem?_eq_getElem h]
 unfold Qa7 ordB;rw[e2,List.drop_eq_getElem_cons h];cases Qkt l n<;>rfl
theorem Qn1 (l:List It) (x:Int):ordB l 0 x=true:=rfl
theorem Qn2 {l:List It} {p:Nat} (h:p<l.length) (x:Int):ordB l (p+1) x=decide (l[p].off<x):=by
 simp[ordB,Qkt,List.getElem?_eq_getElem h]
def rowB (start next:Int) (l:List It):Bool:=Qa7 start (next - 1) l 0&&inB start 0 next&&decide (next<=100000)&&decide (l.length<=80)
theorem Qdq (v:Bool) (off who time:Int) (k t:ByteArray) (hk:k.size<=9223372036854775807) (ht:t.size<=9223372036854775807) (h:Hid (partB k t who time=v)) (w:World):
 Calls Tryz.prog 133 #[.agg (Qbs off k t who time)] w fun e w' =>e= .returned (.bool v)/\Below w.heap.size w w' :=by
 have:=Qi3 off who time k t hk ht w;rw[h.out]at this;exact this
theorem Qqo (v:Bool) (x lo hi:Int) (h:Hid (inB x lo hi=v)) (w:World):
 Calls Tryz.prog 35 (Qck x lo hi) w fun e w' =>e= .returned (.bool v)/\w' =w:=by
 have:=Qcf x lo hi w;rw[h.out]at this;exact this
def Qso (next:Int) (s:Option Int) (x:It):Option Int:=s.bind fun m=>if x.off<m∨next<=x.off then none else some (wrap64 (x.off+1))
def ascF (next start:Int) (l:List It):Option Int:=l.foldl (Qso next) (some start)
theorem Blk.item {W:World} {B:Nat} {t:TypeId} {a b c d e:Value} (h:Blk W B t #[a,b,c,d,e]):
 W.cell? ⟨B,0,none⟩=some a/\W.cell? ⟨B,1,none⟩=some b/\W.cell? ⟨B,2,none⟩=some c/\W.cell? ⟨B,3,none⟩=some d/\W.cell? ⟨B,4,none⟩=some e:=
 ⟨h.cell rfl,h.cell rfl,h.cell rfl,h.cell rfl,h.cell rfl⟩
theorem Blk.row {W:World} {B:Nat} {t:TypeId} {a b c:Value} (h:Blk W B t #[a,b,c]):
 W.cell? ⟨B,0,none⟩=some a/\W.cell? ⟨B,1,none⟩=some b/\W.cell? ⟨B,2,none⟩=some c:=
 ⟨h.cell rfl,h.cell rfl,h.cell rfl⟩
attribute [local go_sem] Oper.semAt_some
theorem five (p q r s t:Bool):p=false∨(p=true/\q=false)∨(p=true/\q=true/\r=false)∨(p=true/\q=true/\r=true/\s=false)∨(p=true/\q=true/\r=true/\s=true/\t=false)∨(p=true/\q=true/\r=true/\s=true/\t=true):=by
 cases p<;>cases q<;>cases r<;>cases s<;>cases t<;>simp
def okB (start next:Int) (l:List It):Bool:=inB next 0 100000&&inB start 0 next&&decide ((l.length:Int)<=80)&&(ascF next start l).isSome&&l.all itemB
theorem Qhr {a:Int} (h1:0<=a) (h2:a<=1000000):wrap64 a=a:=by unfold wrap64;omega
def ahead (p:Option Int) (x:Int):Bool:=match p with|none=>true|some o=>decide (o<x)
theorem Blk.thaw {W:World} {B:Nat} {t:TypeId} {vs:Array Value} (h:Blk W B t vs) (i:Nat):W.frozen? ⟨B,i,none⟩=false:=by simp[World.frozen?,show W.heap[B]? =_ from h]
theorem Blk.setAt {W:World} {B:Nat} {t:TypeId} {vs:Array Value} (h:Blk W B t vs) (i:Nat) (v:Value):Blk (W.setCell ⟨B,i,none⟩ v) B t (vs.setIfInBounds i v):=by
 obtain⟨hlt,hk⟩:=Array.getElem?_eq_some_iff.1 h;show(W.heap.modify B _)[B]? =_;rw[Array.getElem?_eq_getElem (by rw[Array.size_modify];exact hlt),Array.getElem_modify_self,hk];rfl
theorem Blk.drew {W:World} {B:Nat} {t:TypeId} {vs:Array Value} (h:Blk W B t vs):Blk W.drew B t vs:=h
theorem Qav {n:Nat} {a b:World} (h:Below n a b) {B i:Nat} (hn:n<=B) (v:Value):Below n a (b.setCell ⟨B,i,none⟩ v):=h.setCell (p:=⟨B,i,none⟩) hn v
end Go.Proofs.YtajbldnhjpjghaaGreat.Items
