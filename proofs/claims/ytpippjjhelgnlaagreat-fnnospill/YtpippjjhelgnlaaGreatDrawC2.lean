/-
  Commands that are drawn, right ones.
-/
import Derived.Test.YtpippjjhelgnlaaGreatDrawC
set_option linter.unusedVariables false
set_option linter.unusedSimpArgs false
set_option maxRecDepth 100000
set_option maxHeartbeats 8000000
namespace Go.Proofs.YtpippjjhelgnlaaGreat.Gen
open ChangeShapes WideShapes ChangeAt RowKit Joins Deep Base
def Dc (who seq op a b c:Int) (k t:ByteArray):Prop:=(who= -1/\seq=0/\op=0/\a=0/\b=0/\c=0/\k=⟨#[]⟩/\t=⟨#[]⟩)∨(0<=who/\who<=3/\1<=seq/\seq<=6/\Bd op a b c k t)
theorem Dc.size {who seq op a b c:Int} {k t:ByteArray} (h:Dc who seq op a b c k t):k.size<=30/\t.size<=30:=by
 rcases h with⟨_,_,_,_,_,_,rfl,rfl⟩|⟨_,_,_,_,h⟩
 . exact⟨by decide,by decide⟩
 . exact⟨h.k.le,h.t.le⟩
theorem Qfk (C:Nat) (A:Option Addr) (cap:Nat) (l:List By) (w:World) (hD:Drawn w C A cap l):
 Calls Tryz.prog 132 #[.pointer (some ⟨C,0,none⟩)] w fun e w' =>∃(who seq op a b c:Int) (k t:ByteArray),e= .returned (.agg (Qab who seq op a b c k t))/\Dc who seq op a b c k t/\Only C w w' /\Drawn w' C A cap l:=by
 have hC:=hD.lt;have HD0:=hidP hD;clear hD;have bR:=Blk.new w 110 Qax;have HO:=hidP (Only.of_below (c:=C) (Qad (Below.refl _ w) (.cells Qax 110)));have HD:=hidP (HD0.out.below (Qad (Below.refl _ w) (.cells Qax 110)));clear HD0;go_enter Tryz.func132,Tryz.ntmps132;go_wp2_with fail;refine(once_any C A cap l 10 (by omega) (by omega) _ (HD.out)).mono ?_;rintro e w1 ⟨q,rfl,o_,d_⟩;replace bR:Blk w1 w.heap.size 110 Qax:=(bR).only o_ (by omega);have q_:=o_.size
 try simp only[World.size_alloc,World.size_setCell]at q_
 replace HO:=hidP ((HO.out).trans o_);replace HD:=hidP d_;clear o_ d_;cases q with
 |true=>
  have rr0:=bR.cell (i:=0) rfl;have rr1:=bR.cell (i:=1) rfl;have rr2:=bR.cell (i:=2) rfl;have rr3:=bR.cell (i:=3) rfl;have rr4:=bR.cell (i:=4) rfl;have rr5:=bR.cell (i:=5) rfl;have rr6:=bR.cell (i:=6) rfl;have rr7:=bR.cell (i:=7) rfl;have zz0:=bR.thaw 0;have zz1:=bR.thaw 1;have zz2:=bR.thaw 2;have zz3:=bR.thaw 3;have zz4:=bR.thaw 4;have zz5:=bR.thaw 5;have zz6:=bR.thaw 6;have zz7:=bR.thaw 7;have qR:=bR.lt;have hF:Hid (∀W,Only C w W->Drawn W C A cap l->Only C w W):=hidP (fun _ h _=>h);clear hF;go_wp2;exact bodyPost_ret (v:= .agg (Qab (-1) 0 0 0 0 0 ⟨#[]⟩ ⟨#[]⟩)) (by simp[results,Tryz.results132,go_sem,rr0,rr1,rr2,rr3,rr4,rr5,rr6,rr7]) rfl ⟨-1,0,0,0,0,0,⟨#[]⟩,⟨#[]⟩,rfl,.inl ⟨rfl,rfl,rfl,rfl,rfl,rfl,rfl,rfl⟩,Qar (Qar (Qar (Qar (Qar (Qar (Qar (Qar (HO.out) ((Only.refl w.heap.size _).set 0 (.int .i64 (-1))) (by omega)) ((Only.refl w.heap.size _).set 1 (.int .i64 0)) (by omega)) ((Only.refl w.heap.size _).set 2 (.int .i64 0)) (by omega)) ((Only.refl w.heap.size _).set 3 (.int .i64 0)) (by omega)) ((Only.refl w.heap.size _).set 4 (.int .i64 0)) (by omega)) ((Only.refl w.heap.size _).set 5 (.int .i64 0)) (by omega)) ((Only.refl w.heap.size _).set 6 (.string ⟨#[]⟩)) (by omega)) ((Only.refl w.heap.size _).set 7 (.string ⟨#[]⟩)) (by omega),((((((((HD.out).only ((Only.refl w.heap.size _).set 0 (.int .i64 (-1))) (by omega)).only ((Only.refl w.heap.size _).set 1 (.int .i64 0)) (by omega)).only ((Only.refl w.heap.size _).set 2 (.int .i64 0)) (by omega)).only ((Only.refl w.heap.size _).set 3 (.int .i64 0)) (by omega)).only ((Only.refl w.heap.size _).set 4 (.int .i64 0)) (by omega)).only ((Only.refl w.heap.size _).set 5 (.int .i64 0)) (by omega)).only ((Only.refl w.heap.size _).set 6 (.string ⟨#[]⟩)) (by omega)).only ((Only.refl w.heap.size _).set 7 (.string ⟨#[]⟩)) (by omega)⟩
 |false=>
  go_wp2_with fail;refine(Qj9 C A cap l _ (HD.out)).mono ?_;rintro e w2 ⟨op,a,b,c,k,t,rfl,hbd,o_,d_⟩;replace bR:Blk w2 w.heap.size 110 Qax:=(bR).only o_ (by omega);have q_:=o_.size
  try simp only[World.size_alloc,World.size_setCell]at q_
  replace HO:=hidP ((HO.out).trans o_);replace HD:=hidP d_;clear o_ d_;have Hbd:=hidP hbd;clear hbd;have bX:=Blk.new w2 110 (Qab 0 0 op a b c k t);replace bR:=bR.alloc (.cells (Qab 0 0 op a b c k t) 110);replace HO:=hidP (HO.out.below (Qad (Below.refl _ _) (.cells (Qab 0 0 op a b c k t) 110)));replace HD:=hidP (HD.out.below (Qad (Below.refl _ _) (.cells (Qab 0 0 op a b c k t) 110)));have hRX:w.heap.size≠w2.heap.size:=by omega
  go_wp2_with fail;refine(Qbe C A cap l 4 (by omega) (by omega) _ HD.out).mono ?_;rintro e w3 ⟨who,rfl,hw0,hw1,o_,d_⟩;have hX:w.heap.size<w2.heap.size:=by omega
  generalize w2.heap.size=X at*;replace bR:Blk w3 w.heap.size 110 Qax:=bR.only o_ (by omega);replace bX:Blk w3 X 110 (Qab 0 0 op a b c k t):=bX.only o_ (by omega);replace HO:=hidP (HO.out.trans o_);replace HD:=hidP d_;clear o_ d_;have cx0:=bX.cell (i:=0) rfl;have cx1:=bX.cell (i:=1) rfl;have cx2:=bX.cell (i:=2) rfl;have cx3:=bX.cell (i:=3) rfl;have cx4:=bX.cell (i:=4) rfl;have cx5:=bX.cell (i:=5) rfl;have cx6:=bX.cell (i:=6) rfl;have cx7:=bX.cell (i:=7) rfl;have fx0:=bX.thaw 0;have fx1:=bX.thaw 1;have fx2:=bX.thaw 2;have fx3:=bX.thaw 3;have fx4:=bX.thaw 4;have fx5:=bX.thaw 5;have fx6:=bX.thaw 6;have fx7:=bX.thaw 7;have qX:=bX.lt;go_wp2_with fail;refine(Qbe C A cap l 6 (by omega) (by omega) _ ((HD.out).only ((Only.refl X _).set 0 (.int .i64 who)) (by omega))).mono ?_;rintro e w4 ⟨sq,rfl,hs0,hs1,o_,d_⟩;replace bR:Blk w4 w.heap.size 110 Qax:=((bR).other (B' :=X) (by omega) 0 (.int .i64 who)).only o_ (by omega);replace bX:Blk w4 X 110 (Qab who 0 op a b c k t):=((bX).setAt 0 (.int .i64 who)).only o_ (by omega);have q_:=o_.size
  try simp only[World.size_alloc,World.size_setCell]at q_
  replace HO:=hidP ((Qar (HO.out) ((Only.refl X _).set 0 (.int .i64 who)) (by omega)).trans o_);replace HD:=hidP d_;clear o_ d_;clear cx0 cx1 cx2 cx3 cx4 cx5 cx6 cx7 fx0 fx1 fx2 fx3 fx4 fx5 fx6 fx7 qX;have cx0:=bX.cell (i:=0) rfl;have cx1:=bX.cell (i:=1) rfl;have cx2:=bX.cell (i:=2) rfl;have cx3:=bX.cell (i:=3) rfl;have cx4:=bX.cell (i:=4) rfl;have cx5:=bX.cell (i:=5) rfl;have cx6:=bX.cell (i:=6) rfl;have cx7:=bX.cell (i:=7) rfl;have fx0:=bX.thaw 0;have fx1:=bX.thaw 1;have fx2:=bX.thaw 2;have fx3:=bX.thaw 3;have fx4:=bX.thaw 4;have fx5:=bX.thaw 5;have fx6:=bX.thaw 6;have fx7:=bX.thaw 7;have qX:=bX.lt;obtain⟨seq,hseq⟩:∃s:Int,s=1+sq:=⟨_,rfl⟩
  have hseq1:1<=seq/\seq<=6:=by omega
  have rr0:=bR.cell (i:=0) rfl;have rr1:=bR.cell (i:=1) rfl;have rr2:=bR.cell (i:=2) rfl;have rr3:=bR.cell (i:=3) rfl;have rr4:=bR.cell (i:=4) rfl;have rr5:=bR.cell (i:=5) rfl;have rr6:=bR.cell (i:=6) rfl;have rr7:=bR.cell (i:=7) rfl;have zz0:=bR.thaw 0;have zz1:=bR.thaw 1;have zz2:=bR.thaw 2;have zz3:=bR.thaw 3;have zz4:=bR.thaw 4;have zz5:=bR.thaw 5;have zz6:=bR.thaw 6;have zz7:=bR.thaw 7;have qR:=bR.lt;have hF:Hid (∀W,Only C w W->Drawn W C A cap l->Only C w W):=hidP (fun _ h _=>h);clear hF;go_wp2
  exact bodyPost_ret (v:= .agg (Qab who (1+sq) op a b c k t)) (by simp[results,Tryz.results132,go_sem,rr0,rr1,rr2,rr3,rr4,rr5,rr6,rr7,hRX]) rfl ⟨who,1+sq,op,a,b,c,k,t,rfl,.inr ⟨by omega,by omega,by omega,by omega,Hbd.out⟩,Qar (Qar (Qar (Qar (Qar (Qar (Qar (Qar (Qar (HO.out) ((Only.refl X _).set 1 (.int .i64 (1+sq))) (by omega)) ((Only.refl w.heap.size _).set 0 (.int .i64 who)) (by omega)) ((Only.refl w.heap.size _).set 1 (.int .i64 (1+sq))) (by omega)) ((Only.refl w.heap.size _).set 2 (.int .i64 op)) (by omega)) ((Only.refl w.heap.size _).set 3 (.int .i64 a)) (by omega)) ((Only.refl w.heap.size _).set 4 (.int .i64 b)) (by omega)) ((Only.refl w.heap.size _).set 5 (.int .i64 c)) (by omega)) ((Only.refl w.heap.size _).set 6 (.string k)) (by omega)) ((Only.refl w.heap.size _).set 7 (.string t)) (by omega),(((((((((HD.out).only ((Only.refl X _).set 1 (.int .i64 (1+sq))) (by omega)).only ((Only.refl w.heap.size _).set 0 (.int .i64 who)) (by omega)).only ((Only.refl w.heap.size _).set 1 (.int .i64 (1+sq))) (by omega)).only ((Only.refl w.heap.size _).set 2 (.int .i64 op)) (by omega)).only ((Only.refl w.heap.size _).set 3 (.int .i64 a)) (by omega)).only ((Only.refl w.heap.size _).set 4 (.int .i64 b)) (by omega)).only ((Only.refl w.heap.size _).set 5 (.int .i64 c)) (by omega)).only ((Only.refl w.heap.size _).set 6 (.string k)) (by omega)).only ((Only.refl w.heap.size _).set 7 (.string t)) (by omega)⟩
end Go.Proofs.YtpippjjhelgnlaaGreat.Gen
namespace Go.Proofs.YtpippjjhelgnlaaGreat.Items
open ChangeShapes WideShapes ChangeAt RowKit Base
structure Only (b:Nat) (w w' :World):Prop where
  os:w'.os=w.os
  tape:w'.tape=w.tape
  output:w'.output=w.output
  size:w.heap.size<=w'.heap.size
  block:∀k,k<w.heap.size->k≠b->w'.heap[k]? =w.heap[k]?
theorem Only.refl (b:Nat) (w:World):Only b w w:=⟨rfl,rfl,rfl,Nat.le_refl _,fun _ _ _=>rfl⟩
theorem Only.below {b:Nat} {w w1 w2:World} (h:Only b w w1) (k:Below w1.heap.size w1 w2):Only b w w2:=
 ⟨k.os.trans h.os,k.tape.trans h.tape,k.output.trans h.output,Nat.le_trans h.size k.size,fun i hi hb=>(k.block i (Nat.lt_of_lt_of_le hi h.size)).trans (h.block i hi hb)⟩
theorem Only.set {b:Nat} {w w1:World} (h:Only b w w1) (o:Nat) (v:Value):Only b w (w1.setCell ⟨b,o,none⟩ v):=
 ⟨h.os,h.tape,h.output,by simpa using h.size,fun i hi hb=>(Below.heap_setCell w1 ⟨b,o,none⟩ v i hb).trans (h.block i hi hb)⟩
theorem Only.toBelow {b B:Nat} {w w1:World} (h:Only b w w1) (hB:B<=b) (hw:B<=w.heap.size):Below B w w1:=
 ⟨h.os,h.tape,h.output,h.size,fun i hi=>h.block i (by omega) (by omega)⟩
theorem Only.cell {b:Nat} {w w1:World} (h:Only b w w1) {p:Addr} (hp:p.block<w.heap.size) (hb:p.block≠b):w1.cell? p=w.cell? p:=World.cell?_of_block (h.block p.block hp hb)
theorem Only.frozen {b:Nat} {w w1:World} (h:Only b w w1) {p:Addr} (hp:p.block<w.heap.size) (hb:p.block≠b):w1.frozen? p=w.frozen? p:=World.frozen?_of_block (h.block p.block hp hb)
theorem In.only {b c o:Nat} {w w1:World} {l:List It} (h:In w c o l) (k:Only b w w1) (hc:c<w.heap.size) (hb:c≠b):In w1 c o l:=
 fun j v hv=>(k.cell (p:=⟨c,o+j,none⟩) hc hb).trans (h j v hv)
def markI (z:Int):It:=⟨z,markZ (z+1),markZ (z+2),z+3,z+4⟩
def marks (n:Nat) (z:Int):List It:=(List.range n).map fun(i:Nat)=>markI (z+(i:Int) *5)
theorem Qfb {w w' :World} {b o:Nat} {cs:List Value} (h:w.rangeAt b o cs) (hb:b<w.heap.size) (hw:Below w.heap.size w w'):w'.rangeAt b o cs:=
 fun j v hv=>(hw.cell (p:=⟨b,o+j,none⟩) hb).trans (h j v hv)
theorem call {w w' :World} {b o m:Nat} {cs:List Value} (h:w.rangeAt b o cs/\w.there b o m/\b<w.heap.size) (k:Below w.heap.size w w'):w'.rangeAt b o cs/\w'.there b o m/\b<w'.heap.size:=
 ⟨Qfb h.1 h.2.2 k,Qgl h.2.1 h.2.2 k,Nat.lt_of_lt_of_le h.2.2 k.size⟩
end Go.Proofs.YtpippjjhelgnlaaGreat.Items
namespace Go.Proofs.YtpippjjhelgnlaaGreat.Gen
open ChangeShapes WideShapes ChangeAt RowKit Joins Deep Base
open Items (It)
instance:Cel It where
  k:=5
  cs:=It.cs
  len _:=rfl
  one x u hu:=by simp[It.cs]at hu;rcases hu with rfl|rfl|rfl|rfl|rfl<;>rfl
structure RC where
  start:Int
  next:Int
  A:Option Addr
  cap:Nat
  its:List It
instance:Inhabited RC:=⟨⟨0,0,none,0,[]⟩⟩
instance:Cel RC where
  k:=3
  cs x:= [.int .i64 x.start,.int .i64 x.next,.slice x.A x.its.length x.cap]
  len _:=rfl
  one x u hu:=by simp at hu;rcases hu with rfl|rfl|rfl<;>rfl
structure PR where
  start:Int
  next:Int
  its:List It
def RC.p (x:RC):PR:=⟨x.start,x.next,x.its⟩
def EachR (w:World) (l:List RC):Prop:=∀x∈l,At w x.A x.its
theorem EachR.below {w w' :World} {l:List RC} (h:EachR w l) (hw:Below w.heap.size w w'):EachR w' l:=fun x hx=>(h x hx).below hw
def rowP (w:World) (x:RC) (S:Nat->Prop):Prop:=Sub w x.A x.its S
theorem Qfa:Firm rowP:=fun w w' x S T h k hd=>Sub.offp h k hd
theorem In.getRC {w:World} {b o:Nat} {l:List RC} (h:In w b o l) (i:Nat) (hi:i<l.length):
 w.cell? ⟨b,o+i*3,none⟩=some (.int .i64 l[i].start)/\w.cell? ⟨b,o+i*3+1,none⟩=some (.int .i64 l[i].next)/\w.cell? ⟨b,o+i*3+2,none⟩=some (.slice l[i].A l[i].its.length l[i].cap):=
 ⟨h.cell i hi (f:=0) rfl,h.cell i hi (f:=1) rfl,h.cell i hi (f:=2) rfl⟩
theorem infoRC:(Tryz.prog.info? 69).map (fun i=>(i.zero,i.size,i.bytes))=some (some (.agg Qcj),3,40):=by kernel_rfl
def cR (x:RC):Nat:=2+x.its.length*5
end Go.Proofs.YtpippjjhelgnlaaGreat.Gen
namespace Go.Proofs.YtpippjjhelgnlaaGreat.Gen
open ChangeShapes WideShapes ChangeAt RowKit Joins Deep Base
structure Three (n:Nat) (w:World) (x y z:Nat) (m b o:List Int):Prop where
  nx:n<=x
  xy:x<y
  yz:y<z
  zs:z<w.heap.size
  im:In w x 0 m
  ib:In w y 0 b
  io:In w z 0 o
  tm:w.there x 0 (m.length*1)
  tb:w.there y 0 (b.length*1)
  to:w.there z 0 (o.length*1)
end Go.Proofs.YtpippjjhelgnlaaGreat.Gen
namespace Go.Proofs.YtpippjjhelgnlaaGreat.Gen
open ChangeShapes WideShapes ChangeAt RowKit Joins Deep Base
structure GC where
  gen:Int
  a1:Option Addr
  c1:Nat
  m:List Int
  a2:Option Addr
  c2:Nat
  b:List Int
  a3:Option Addr
  c3:Nat
  o:List Int
instance:Inhabited GC:=⟨⟨0,none,0,[],none,0,[],none,0,[]⟩⟩
instance:Cel GC where
  k:=4
  cs x:= [.int .i64 x.gen,.slice x.a1 x.m.length x.c1,.slice x.a2 x.b.length x.c2,.slice x.a3 x.o.length x.c3]
  len _:=rfl
  one x u hu:=by simp at hu;rcases hu with rfl|rfl|rfl|rfl<;>rfl
structure PG where
  gen:Int
  m:List Int
  b:List Int
  o:List Int
def GC.p (x:GC):PG:=⟨x.gen,x.m,x.b,x.o⟩
def atG (w:World) (x:GC):Prop:=At w x.a1 x.m/\At w x.a2 x.b/\At w x.a3 x.o
theorem atG.below {w w' :World} {x:GC} (h:atG w x) (hw:Below w.heap.size w w'):atG w' x:=⟨h.1.below hw,h.2.1.below hw,h.2.2.below hw⟩
def EachG (w:World) (l:List GC):Prop:=∀x∈l,atG w x
theorem EachG.below {w w' :World} {l:List GC} (h:EachG w l) (hw:Below w.heap.size w w'):EachG w' l:=fun x hx=>(h x hx).below hw
def grpP (w:World) (x:GC) (S:Nat->Prop):Prop:=
  ∃S1 S2 S3:Nat->Prop,(∀y,S1 y->S y)/\(∀y,S2 y->S y)/\(∀y,S3 y->S y)/\(∀y,S1 y->¬S2 y)/\(∀y,S1 y->¬S3 y)/\(∀y,S2 y->¬S3 y)/\Sub w x.a1 x.m S1/\Sub w x.a2 x.b S2/\Sub w x.a3 x.o S3
theorem Qde:Firm grpP:=fun w w' x S T ⟨S1,S2,S3,i1,i2,i3,d1,d2,d3,s1,s2,s3⟩ k hd=>
 ⟨S1,S2,S3,i1,i2,i3,d1,d2,d3,s1.offp k (fun y hy=>hd y (i1 y hy)),s2.offp k (fun y hy=>hd y (i2 y hy)),s3.offp k (fun y hy=>hd y (i3 y hy))⟩
theorem In.getGC {w:World} {b o:Nat} {l:List GC} (h:In w b o l) (i:Nat) (hi:i<l.length):
 w.cell? ⟨b,o+i*4,none⟩=some (.int .i64 l[i].gen)/\w.cell? ⟨b,o+i*4+1,none⟩=some (.slice l[i].a1 l[i].m.length l[i].c1)/\w.cell? ⟨b,o+i*4+2,none⟩=some (.slice l[i].a2 l[i].b.length l[i].c2)/\w.cell? ⟨b,o+i*4+3,none⟩=some (.slice l[i].a3 l[i].o.length l[i].c3):=
 ⟨h.cell i hi (f:=0) rfl,h.cell i hi (f:=1) rfl,h.cell i hi (f:=2) rfl,h.cell i hi (f:=3) rfl⟩
theorem infoGC:(Tryz.prog.info? 80).map (fun i=>(i.zero,i.size,i.bytes))=some (some (.agg Qcp),4,80):=by kernel_rfl
end Go.Proofs.YtpippjjhelgnlaaGreat.Gen
namespace Go.Proofs.YtpippjjhelgnlaaGreat.Gen
open ChangeShapes WideShapes ChangeAt RowKit Joins Deep Base
def makP (w:World) (x:MC) (S:Nat->Prop):Prop:=Sub w x.A x.ms S
theorem Qfg:Firm makP:=fun w w' x S T h k hd=>Sub.offp h k hd
end Go.Proofs.YtpippjjhelgnlaaGreat.Gen
namespace Go.Proofs.YtpippjjhelgnlaaGreat.Gen
open ChangeShapes WideShapes ChangeAt RowKit Joins Deep Base
theorem Blk.row6 {W:World} {B:Nat} {t:TypeId} {a b c d e f:Value} (h:Blk W B t #[a,b,c,d,e,f]):W.cell? ⟨B,0,none⟩=some a/\W.cell? ⟨B,1,none⟩=some b/\W.cell? ⟨B,2,none⟩=some c/\W.cell? ⟨B,3,none⟩=some d/\W.cell? ⟨B,4,none⟩=some e/\W.cell? ⟨B,5,none⟩=some f:=⟨h.cell (by rfl),h.cell (by rfl),h.cell (by rfl),h.cell (by rfl),h.cell (by rfl),h.cell (by rfl)⟩
structure KC where
  rA:Option Addr
  rc:Nat
  rs:List RC
  mA:Option Addr
  mc:Nat
  ms:List MC
  gA:Option Addr
  gc:Nat
  gs:List GC
  time:Int
  dA:Option Addr
  dc:Nat
  ds:List Int
  lA:Option Addr
  lc:Nat
  ls:List An
structure PK where
  rs:List PR
  ms:List PM
  gs:List PG
  time:Int
  ds:List Int
  ls:List An
def KC.p (x:KC):PK:=⟨x.rs.map RC.p,x.ms.map MC.p,x.gs.map GC.p,x.time,x.ds,x.ls⟩
def KC.cells (x:KC):Array Value:=(Qaa x.rA x.rs.length x.rc x.mA x.ms.length x.mc x.gA x.gs.length x.gc x.time x.dA x.ds.length x.dc x.lA x.ls.length x.lc)
structure KAt (w:World) (x:KC):Prop where
  ra:At w x.rA x.rs
  re:EachR w x.rs
  ma:At w x.mA x.ms
  me:Each w x.ms
  ga:At w x.gA x.gs
  ge:EachG w x.gs
  da:At w x.dA x.ds
  la:At w x.lA x.ls
theorem KAt.below {w w' :World} {x:KC} (h:KAt w x) (g:Below w.heap.size w w'):KAt w' x:=
 ⟨h.ra.below g,h.re.below g,h.ma.below g,h.me.below g,h.ga.below g,h.ge.below g,h.da.below g,h.la.below g⟩
structure KCol (w:World) (x:KC) (S:Nat->Prop) (col:Nat->Nat):Prop where
  r:Own rowP w x.rA x.rs (fun b=>S b/\col b=1)
  m:Own makP w x.mA x.ms (fun b=>S b/\col b=2)
  g:Own grpP w x.gA x.gs (fun b=>S b/\col b=3)
  d:Sub w x.dA x.ds (fun b=>S b/\col b=4)
  l:Sub w x.lA x.ls (fun b=>S b/\col b=5)
def KOwn (w:World) (x:KC) (S:Nat->Prop):Prop:=∃col,KCol w x S col
end Go.Proofs.YtpippjjhelgnlaaGreat.Gen
namespace Go.Proofs.YtpippjjhelgnlaaGreat.Gen
open ChangeShapes WideShapes ChangeAt RowKit Joins Deep Base
def upF (gen:Int):Int:=if gen>=100000 then gen else gen+1
theorem Qgd (gen:Int) (hg:I64 gen) (w:World):Calls Tryz.prog 213 #[.int .i64 gen] w fun e w' =>e= .returned (.int .i64 (upF gen))/\w' =w:=by
 obtain⟨h0,h1⟩:=hg;by_cases h:gen>=100000
 . have e:Hid (upF gen=gen):=(by show _=_;simp[upF,h]);go_enter Tryz.func213,Tryz.ntmps213;go_wp2;go_ret;exact⟨by rw[e.out];rfl,rfl⟩
 . have e:Hid (upF gen=gen+1):=(by show _=_;simp[upF,h]);have hb:gen+1<=100000:=(by omega);go_enter Tryz.func213,Tryz.ntmps213;go_wp2;go_ret;exact⟨by rw[e.out];rfl,rfl⟩
def oldF (beat time:Int):Bool:=decide (beat<time/\50<time - beat)
structure Mb where
  who:Int
  beat:Int
  has:Bool
instance:Inhabited Mb:=⟨⟨0,0,false⟩⟩
instance:Cel Mb where
  k:=3
  cs x:= [.int .i64 x.who,.int .i64 x.beat,.bool x.has]
  len _:=rfl
  one x u hu:=by simp at hu;rcases hu with rfl|rfl|rfl<;>rfl
def Qfi (time:Int) (x:Mb):Bool:=x.has&&oldF x.beat time
end Go.Proofs.YtpippjjhelgnlaaGreat.Gen
namespace Go.Proofs.YtpippjjhelgnlaaGreat.Gen
open ChangeShapes WideShapes ChangeAt RowKit Joins Deep Base
def hasFirst (L:List Mb):Prop:=∀(i j:Nat) (hi:i<L.length) (hj:j<L.length),j<=i->L[i].has=true->L[j].has=true
theorem Qie {L:List Mb} (h:hasFirst L) {n:Nat} (hn:n<L.length) (hh:L[n].has=true):(L.take n).filter Mb.has=L.take n:=by
 rw[List.filter_eq_self];intro x hx;obtain⟨j,hj,rfl⟩:=List.mem_iff_getElem.1 hx;have hj' :j<n:=by simp at hj;omega
 rw[List.getElem_take];exact h n j hn (by omega) (by omega) hh
def Qc3 (L:List Mb):List Int:=(L.filter Mb.has).map Mb.beat
end Go.Proofs.YtpippjjhelgnlaaGreat.Gen
namespace Go.Proofs.YtpippjjhelgnlaaGreat.Gen
open ChangeShapes WideShapes ChangeAt RowKit Joins Deep Base
section
variable {α:Type} [Cel α]
end
def mbs (m b:List Int):List Mb:=(List.range m.length).map fun i=>⟨m.getD i 0,b.getD i 0,decide (i<b.length)⟩
theorem Qbz (m b:List Int):(mbs m b).length=m.length:=by simp[mbs]
theorem Qkt {m b:List Int} {n:Nat} (h:n<m.length) (h' :n<(mbs m b).length):(mbs m b)[n]=⟨m[n],b.getD n 0,decide (n<b.length)⟩:=by simp[mbs,h]
def zeroMb:Mb:=⟨0,0,false⟩
def laid (m b:List Int) (n:Nat):List Mb:=(mbs m b).take n++List.replicate (m.length - n) zeroMb
def Qd1 (m b:List Int):List Int:=b.drop m.length
end Go.Proofs.YtpippjjhelgnlaaGreat.Gen
namespace Go.Proofs.YtpippjjhelgnlaaGreat.Gen
section
variable {P:Program} {ops:Array Oper} {Q:Exit->Act->World->Prop} {md:Region.Mode} {S:World->Prop} {z:Nat}
def Qf9 (md:Region.Mode) (ops:Array Oper) (z i:Nat):Bool:=
  match ops[z]? with
  |none=>false
  |some o=>o.after.any fun e=>Region.binds md e&&e.on==i
theorem not_before {i:Nat} {L:Array Bool} (hz:Qf9 md ops z i=true) (hi:i∈Region.ready md ops L):z∉Region.ready md ops L:=fun h=>by
 obtain⟨hu,oi,hoi,_⟩:=mem_ready.1 hi;obtain⟨_,oz,hoz,hall⟩:=mem_ready.1 h;simp only[Qf9,hoz]at hz;obtain⟨e,he,hb⟩:=Array.any_eq_true'.1 hz;simp only[Bool.and_eq_true,beq_iff_eq]at hb;have h2:=hall e he hb.1;rw[hb.2]at h2;rcases Nat.lt_or_ge i L.size with h' |h'
 . simp[h']at hu h2;rw[hu]at h2;cases h2
 . simp[Array.getElem?_eq_none h']at h2
theorem Qjz (L:Array Bool) (z:Nat):(L.setIfInBounds z true).getD z true=true:=by
 by_cases h:z<L.size
 . simp[h]
 . simp[h]
def Qcf (P:Program) (md:Region.Mode) (ops:Array Oper) (Q:Exit->Act->World->Prop) (S:World->Prop) (z:Nat):Nat->Array Bool->Act->World->Prop
  |0,L,a,w=>Region.ready md ops L= []/\Q .normal a w
  |n+1,L,a,w=>(Region.ready md ops L= []->Q .normal a w)/\
    ∀i∈Region.ready md ops L,wpOp P ops Q i (fun a' w' =>((L.setIfInBounds i true).getD z true=true∨S w')/\Qcf P md ops Q S z n (L.setIfInBounds i true) a' w') a w
theorem Qk8 (n:Nat):∀(L:Array Bool) (a:Act) (w:World),Qcf P md ops Q S z n L a w->wpAny P md ops Q n L a w:=by
 induction n with
 |zero=>exact fun _ _ _ h=>h
 |succ n ih=>exact fun L a w h=>⟨h.1,fun i hi=>wpOp_mono (fun a' w' g=>ih _ a' w' g.2) (h.2 i hi)⟩
theorem till_take {i:Nat} {oi:Oper} {v:Value} (hz:Qf9 md ops z i=true) (hi:ops[i]? =some oi) (hs:Region.noSelect ops=true) (hQ:∀c a w,Q (.panic c) (a.put oi.dst v) w->Q (.panic c) a w) (hiz:i≠z) (n:Nat):
 ∀(L:Array Bool) (a:Act) (w:World),L.getD z true=false->Region.free md ops L i=true->i∈Region.ready md ops L->YieldsIf P ops S oi v a->S w->
  Qcf P md ops Q S z n (L.setIfInBounds i true) (a.put oi.dst v) w->Qcf P md ops Q S z (n+1) L a w:=by
 have sel:∀(j:Nat) (o:Oper) cs b,ops[j]? =some o->o.op≠ .select cs b:=Region.noSelect_spec hs
 suffices key:∀(L:Array Bool) (a:Act) (w:World),L.getD z true=false->(∀j oj,ops[j]? =some oj->j≠i->L.getD j true=false->(∀e∈oj.after,Region.binds md e=true->e.on≠i)->oi.apart ops oj=true)->
  i∈Region.ready md ops L->YieldsIf P ops S oi v a->S w->Qcf P md ops Q S z n (L.setIfInBounds i true) (a.put oi.dst v) w->Qcf P md ops Q S z (n+1) L a w from
  fun L a w h0 hf hr hy hS H=>key L a w h0 (Region.free_spec hi hf) hr hy hS H
 induction n with
 |zero=>
  intro L a w _ _ hr hy hS H
  constructor
  . intro h;rw[h]at hr;exact absurd hr (List.not_mem_nil)
  . intro j hj;rcases Decidable.em (j=i)with e|e
    . subst e;exact hy.wpOp hi hS ⟨.inr hS,H⟩
    . have g:=ready_mono hj e;rw[H.1]at g;exact absurd g (List.not_mem_nil)
 |succ n ih=>
  intro L a w hL hfr hr hy hS H
  constructor
  . intro h;rw[h]at hr;exact absurd hr (List.not_mem_nil)
  . intro j hj;rcases Decidable.em (j=i)with e|e
    . subst e;exact hy.wpOp hi hS ⟨.inr hS,H⟩
    . obtain⟨hun,oj,hoj,hwait⟩:=mem_ready.1 hj;have hjz:j≠z:=fun h=>by subst h;exact not_before hz hr hj
      have iun:=(mem_ready.1 hr).1;have hno:∀d∈oj.after,Region.binds md d=true->d.on≠i:=fun d hd hb q=>by
       have g:=hwait d hd hb;rw[q]at g;rcases Nat.lt_or_ge i L.size with k|k
       . simp[k]at iun g;rw[iun]at g;cases g
       . simp[Array.getElem?_eq_none k]at g
      have step:=wpOp_putIf hoj (hfr j oj hoj e hun hno) (fun cs b=>sel i oi cs b hi) (fun cs b=>sel j oj cs b hoj) hQ hy (H.2 j (ready_mono hj e));refine wpOp_mono (fun a' w' g=> ?_) step;have hL2:(L.setIfInBounds j true).getD z true=false:=(by rw[getD_set_ne true hjz];exact hL);have hS' :S w' :=g.2.1.resolve_left (by rw[getD_set_ne true hjz,getD_set_ne true hiz,hL];decide);refine⟨.inr hS',ih _ a' w' hL2 (fun k ok hk hki hu hn=> ?_) (ready_mono hr (Ne.symm e)) g.1 hS' ?_⟩
      . refine hfr k ok hk hki ?_ hn;rcases Decidable.em (j=k)with q|q
        . subst q;exact hun
        . rwa [getD_set_ne true q]at hu
      . have:=g.2.2;rwa [Array.setIfInBounds_comm _ _ (Ne.symm e)]at this
theorem till_free {i:Nat} {oi:Oper} {v:Value} (hi:ops[i]? =some oi) (hs:Region.noSelect ops=true) (hQ:∀c a w,Q (.panic c) (a.put oi.dst v) w->Q (.panic c) a w) (hiz:i≠z) (n:Nat):
 ∀(L:Array Bool) (a:Act) (w:World),Region.free md ops L i=true->i∈Region.ready md ops L->YieldsIf P ops (fun _=>True) oi v a->(L.getD z true=true∨S w)->
  Qcf P md ops Q S z n (L.setIfInBounds i true) (a.put oi.dst v) w->Qcf P md ops Q S z (n+1) L a w:=by
 have sel:∀(j:Nat) (o:Oper) cs b,ops[j]? =some o->o.op≠ .select cs b:=Region.noSelect_spec hs
 suffices key:∀(L:Array Bool) (a:Act) (w:World),(∀j oj,ops[j]? =some oj->j≠i->L.getD j true=false->(∀e∈oj.after,Region.binds md e=true->e.on≠i)->oi.apart ops oj=true)->
  i∈Region.ready md ops L->YieldsIf P ops (fun _=>True) oi v a->(L.getD z true=true∨S w)->Qcf P md ops Q S z n (L.setIfInBounds i true) (a.put oi.dst v) w->Qcf P md ops Q S z (n+1) L a w from
  fun L a w hf hr hy hS H=>key L a w (Region.free_spec hi hf) hr hy hS H
 induction n with
 |zero=>
  intro L a w _ hr hy hS H
  constructor
  . intro h;rw[h]at hr;exact absurd hr (List.not_mem_nil)
  . intro j hj;rcases Decidable.em (j=i)with e|e
    . subst e;exact hy.wpOp hi trivial ⟨by rw[getD_set_ne true hiz];exact hS,H⟩
    . have g:=ready_mono hj e;rw[H.1]at g;exact absurd g (List.not_mem_nil)
 |succ n ih=>
  intro L a w hfr hr hy hS H
  constructor
  . intro h;rw[h]at hr;exact absurd hr (List.not_mem_nil)
  . intro j hj;rcases Decidable.em (j=i)with e|e
    . subst e;exact hy.wpOp hi trivial ⟨by rw[getD_set_ne true hiz];exact hS,H⟩
    . obtain⟨hun,oj,hoj,hwait⟩:=mem_ready.1 hj;have iun:=(mem_ready.1 hr).1;have hno:∀d∈oj.after,Region.binds md d=true->d.on≠i:=fun d hd hb q=>by
       have g:=hwait d hd hb;rw[q]at g;rcases Nat.lt_or_ge i L.size with k|k
       . simp[k]at iun g;rw[iun]at g;cases g
       . simp[Array.getElem?_eq_none k]at g
      have step:=wpOp_putIf hoj (hfr j oj hoj e hun hno) (fun cs b=>sel i oi cs b hi) (fun cs b=>sel j oj cs b hoj) hQ hy (H.2 j (ready_mono hj e));refine wpOp_mono (fun a' w' g=> ?_) step;have hc:(L.setIfInBounds j true).getD z true=true∨S w' :=by
       rcases Decidable.em (j=z)with q|q
       . subst q;exact .inl (Qjz _ _)
       . have:=g.2.1;rw[getD_set_ne true q,getD_set_ne true hiz]at this;rw[getD_set_ne true q];exact this
      refine⟨hc,ih _ a' w' (fun k ok hk hki hu hn=> ?_) (ready_mono hr (Ne.symm e)) g.1 hc ?_⟩
      . refine hfr k ok hk hki ?_ hn;rcases Decidable.em (j=k)with q|q
        . subst q;exact hun
        . rwa [getD_set_ne true q]at hu
      . have:=g.2.2;rwa [Array.setIfInBounds_comm _ _ (Ne.symm e)]at this
theorem Qek {i:Nat} {oi:Oper} {v:Value} {n:Nat} {L:Array Bool} {a:Act} {w:World} (hz:Qf9 md ops z i=true) (hi:ops[i]? =some oi) (hs:Region.noSelect ops=true) (hiz:i≠z) (h0:L.getD z true=false)
 (hf:Region.free md ops L i=true) (hr:(Region.ready md ops L).contains i=true) (hQ:∀c a w,Q (.panic c) (a.put oi.dst v) w->Q (.panic c) a w) (hy:YieldsIf P ops S oi v a) (hS:S w)
 (h:Qcf P md ops Q S z n (L.setIfInBounds i true) (a.put oi.dst v) w):Qcf P md ops Q S z (n+1) L a w:=
 till_take hz hi hs hQ hiz n L a w h0 hf (by simpa using hr) hy hS h
theorem till_freed {i:Nat} {oi:Oper} {v:Value} {n:Nat} {L:Array Bool} {a:Act} {w:World} (hi:ops[i]? =some oi) (hs:Region.noSelect ops=true) (hiz:i≠z)
 (hf:Region.free md ops L i=true) (hr:(Region.ready md ops L).contains i=true) (hQ:∀c a w,Q (.panic c) (a.put oi.dst v) w->Q (.panic c) a w) (hy:YieldsIf P ops (fun _=>True) oi v a) (hS:S w)
 (h:Qcf P md ops Q S z n (L.setIfInBounds i true) (a.put oi.dst v) w):Qcf P md ops Q S z (n+1) L a w:=
 till_free hi hs hQ hiz n L a w hf (by simpa using hr) hy (.inr hS) h
theorem Qe8 {i:Nat} {o:Oper} {n:Nat} {L:Array Bool} {a:Act} {w:World} (hr:Region.ready md ops L= [i]) (ho:ops[i]? =some o)
 (h:∀K' :Act->World->Prop,Shut (∀a w,(i=z∨S w)->Qcf P md ops Q S z n (L.setIfInBounds i true) a w->K' a w)->if Region.wanted o (yielded ops a.tmps)=true then Oper.wp P o a w K' Q else K' (a.put o.dst undef) w):
 Qcf P md ops Q S z (n+1) L a w:=by
 refine⟨fun h0=>(by rw[hr]at h0;cases h0),fun j hj=> ?_⟩;rw[hr]at hj;obtain rfl:j=i:=by simpa using hj
 exact wpOp_step ho (fun K' hK=>h K' (fun a w h1 h2=>hK a w ⟨h1.imp (fun e=>by subst e;exact Qjz _ _) id,h2⟩))
theorem till_done {L:Array Bool} {a:Act} {w:World} (hr:Region.ready md ops L= []) (h:Q .normal a w):∀n,Qcf P md ops Q S z n L a w
 |0=>⟨hr,h⟩
 |n+1=>⟨fun _=>h,fun i hi=>by rw[hr]at hi;exact absurd hi List.not_mem_nil⟩
theorem Qkm {id:Nat} {a:Act} {w:World} (z:Nat) (S:World->Prop) (hm:P.follows .mixedOrders=true) (h:Qcf P .any ops Q S z ops.size (Array.replicate ops.size false) a w.drew):(Code.region id ops true).wp P Q a w:=
 wp_region_any hm (Qk8 _ _ _ _ h)
end
end Go.Proofs.YtpippjjhelgnlaaGreat.Gen
namespace Go.Proofs.YtpippjjhelgnlaaGreat.Gen
open ChangeShapes WideShapes ChangeAt RowKit Joins Deep Base
theorem Qb2 {F:List Nat} {w W:World} (h:Off F w W) (b i:Nat) (v:Value) (hb:b∈F):Off F w (W.setCell ⟨b,i,none⟩ v):=
 ⟨h.os,h.tape,h.output,by simpa using h.size,fun k hk hn=>(Below.heap_setCell W ⟨b,i,none⟩ v k (fun e=>hn (e▸hb))).trans (h.block k hk hn)⟩
def Qdv (time:Int) (L:List Mb):List Mb:=L.filter fun x=> !Qfi time x
theorem keepF_le (time:Int) (L:List Mb):(Qdv time L).length<=L.length:=List.length_filter_le _ _
end Go.Proofs.YtpippjjhelgnlaaGreat.Gen
namespace Go.Proofs.YtpippjjhelgnlaaGreat.Gen
open ChangeShapes WideShapes ChangeAt RowKit Joins Deep Base
def Gp (w:World) (a1 a2 a3:Option Addr) (m b o:List Int) (F:List Nat):Prop:=
  ∃F1 F2 F3,F=F1++(F2++F3)/\Sl w a1 m F1/\Sl w a2 b F2/\Sl w a3 o F3/\F.Nodup
theorem Gp.off {F G:List Nat} {w w1:World} {a1 a2 a3:Option Addr} {m b o:List Int} (h:Gp w a1 a2 a3 m b o F) (k:Off G w w1) (hd:∀x∈F,x∉G):Gp w1 a1 a2 a3 m b o F:=by
 obtain⟨F1,F2,F3,rfl,s1,s2,s3,hn⟩:=h;exact⟨F1,F2,F3,rfl,s1.off k fun x hx=>hd x (by simp[hx]),s2.off k fun x hx=>hd x (by simp[hx]),s3.off k fun x hx=>hd x (by simp[hx]),hn⟩
theorem Gp.below {F:List Nat} {w w1:World} {a1 a2 a3:Option Addr} {m b o:List Int} (h:Gp w a1 a2 a3 m b o F) (k:Below w.heap.size w w1):Gp w1 a1 a2 a3 m b o F:=h.off (Off.of_below k) (by simp)
theorem Gp.alloc {F:List Nat} {w:World} {a1 a2 a3:Option Addr} {m b o:List Int} (h:Gp w a1 a2 a3 m b o F) (ob:Obj):Gp (w.alloc ob) a1 a2 a3 m b o F:=h.below (Qad (Below.refl _ _) _)
theorem Gp.lt {F:List Nat} {w:World} {a1 a2 a3:Option Addr} {m b o:List Int} (h:Gp w a1 a2 a3 m b o F):∀x∈F,x<w.heap.size:=by
 obtain⟨F1,F2,F3,rfl,s1,s2,s3,hn⟩:=h;intro x hx;simp only[List.mem_append]at hx;rcases hx with h|h|h
 . exact s1.lt x h
 . exact s2.lt x h
 . exact s3.lt x h
theorem Gp.at1 {F:List Nat} {w:World} {a1 a2 a3:Option Addr} {m b o:List Int} (h:Gp w a1 a2 a3 m b o F):At w a1 m:=by obtain⟨_,_,_,_,s,_⟩:=h;exact s.at
theorem Gp.at2 {F:List Nat} {w:World} {a1 a2 a3:Option Addr} {m b o:List Int} (h:Gp w a1 a2 a3 m b o F):At w a2 b:=by obtain⟨_,_,_,_,_,s,_⟩:=h;exact s.at
theorem Gp.at3 {F:List Nat} {w:World} {a1 a2 a3:Option Addr} {m b o:List Int} (h:Gp w a1 a2 a3 m b o F):At w a3 o:=by obtain⟨_,_,_,_,_,_,s,_⟩:=h;exact s.at
end Go.Proofs.YtpippjjhelgnlaaGreat.Gen
namespace Go.Proofs.YtpippjjhelgnlaaGreat.Gen
open ChangeShapes WideShapes ChangeAt RowKit Joins Deep Base
structure Wi (w W:World) (gen:Int) (vm vb vo:Value):Prop where
  bl:Below w.heap.size w W
  g:Blk W w.heap.size 80 #[.int .i64 gen,vm,vb,vo]
  r:Blk W (w.heap.size+1) 80 Qcp
theorem Wi.below {w W W' :World} {gen:Int} {vm vb vo:Value} (h:Wi w W gen vm vb vo) (k:Below W.heap.size W W'):Wi w W' gen vm vb vo:=⟨via0 k h.bl,h.g.below k h.g.lt,h.r.below k h.r.lt⟩
theorem Wi.alloc {w W:World} {gen:Int} {vm vb vo:Value} (h:Wi w W gen vm vb vo) (ob:Obj):Wi w (W.alloc ob) gen vm vb vo:=h.below (Qad (Below.refl _ _) _)
theorem Qc9 {B:Nat} {W:World} {v:Value} {t t' :TypeId} {k n p:Nat} {xs:List Value} {vs:Array Value} (h:W.ownsRow B t k v n xs) (hp:Blk W p t' vs) (ht:t≠t'):∀x,v.ownBlock=some x->x≠p:=by
 intro x hx e;subst e;rcases h.2 with⟨rfl,rfl⟩|⟨g,c,cur,rfl,hB,hg,_⟩
 . cases hx
 . have:g=x:=(by simpa [Value.ownBlock]using hx);subst this;have h2:W.heap[g]? =_:=hp;rw[h2]at hg;cases hg;exact ht rfl
theorem sl_own {W:World} {a:Option Addr} {l:List Int} {F:List Nat} (h:Sl W a l F) (n c:Nat):∀x∈F,(Value.slice a n c).ownBlock=some x:=by
 rcases h with⟨_,rfl⟩|⟨b,o,rfl,rfl,_⟩
 . simp
 . simp[Value.ownBlock]
abbrev putG (Y:World) (p:Nat) (g v1 v2 v3:Value):World:=(((Y.setCell ⟨p,0,none⟩ g).setCell ⟨p,1,none⟩ v1).setCell ⟨p,2,none⟩ v2).setCell ⟨p,3,none⟩ v3
theorem Qc0 (Y:World) (p:Nat) (g v1 v2 v3:Value):Off [p] Y (putG Y p g v1 v2 v3):=Qb2 (Qb2 (Qb2 (Qb2 (Off.refl _ _) p 0 _ (by simp)) p 1 _ (by simp)) p 2 _ (by simp)) p 3 _ (by simp)
theorem blk_putG {Y:World} {p:Nat} {t:TypeId} {x0 x1 x2 x3:Value} (h:Blk Y p t #[x0,x1,x2,x3]) (g v1 v2 v3:Value):Blk (putG Y p g v1 v2 v3) p t #[g,v1,v2,v3]:=(((h.setAt 0 g).setAt 1 v1).setAt 2 v2).setAt 3 v3
theorem Wi.off {w W W' :World} {gen:Int} {vm vb vo:Value} {p:Nat} (h:Wi w W gen vm vb vo) (k:Off [p] W W') (hp:w.heap.size+1<p):Wi w W' gen vm vb vo:=
 ⟨h.bl.trans (k.toBelow (by simp;omega) h.bl.size),h.g.off k (by simp;omega),h.r.off k (by simp;omega)⟩
def Qio (w w' :World) (e:Ending) (gen:Int) (m b o:List Int):Prop:=
  ∃(a1 a2 a3:Option Addr) (c1 c2 c3:Nat) (F:List Nat),e= .returned (.agg (Qaj gen a1 m.length c1 a2 b.length c2 a3 o.length c3))/\Below w.heap.size w w' /\Gp w' a1 a2 a3 m b o F/\∀x∈F,w.heap.size<=x
end Go.Proofs.YtpippjjhelgnlaaGreat.Gen
