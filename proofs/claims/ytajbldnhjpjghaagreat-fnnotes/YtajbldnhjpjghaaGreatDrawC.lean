/-
  Commands that are drawn: right ones, and spoilt ones.
-/
import Derived.Test.YtajbldnhjpjghaaGreatInts
set_option linter.unusedVariables false
set_option linter.unusedSimpArgs false
set_option maxRecDepth 100000
set_option maxHeartbeats 8000000
set_option maxRecDepth 100000
set_option maxHeartbeats 8000000
namespace Go.Proofs.YtajbldnhjpjghaaGreat.Gen
open ChangeShapes WideShapes ChangeAt RowKit Joins Deep Base
theorem Qaf {b B:Nat} {w w1 w2:World} (h:Only b w w1) (k:Only B w1 w2) (hB:w.heap.size<=B):Only b w w2:=
 ⟨k.os.trans h.os,k.tape.trans h.tape,k.output.trans h.output,Nat.le_trans h.size k.size,fun i hi hb=>(k.block i (Nat.lt_of_lt_of_le hi h.size) (by omega)).trans (h.block i hi hb)⟩
theorem Qem {α:Type} [Cel α] (W:World) (L:List α) (cs:Array Value) (tt:TypeId) (h:cs.toList=flat L):In (W.alloc (.cells cs tt)) W.heap.size 0 L:=by
 intro j v hv;rw[← h]at hv;exact(Blk.new W tt cs).cell (i:=0+j) (by simpa using hv)
structure Tx (k:ByteArray):Prop where
  ok:Items.textB k=true
  le:k.size<=30
theorem Qle:Tx ⟨#[]⟩:=⟨by decide+kernel,by decide⟩
structure Bd (op a b c:Int) (k t:ByteArray):Prop where
  op:1<=op/\op<=10
  a:0<=a/\a<=60
  b:0<=b/\b<=3
  c:0<=c/\c<=2
  k:Tx k
  t:Tx t
theorem Qkg (C:Nat) (A:Option Addr) (cap:Nat) (l:List By) (w:World) (hD:Drawn w C A cap l):
 Calls Tryz.prog 75 #[.pointer (some ⟨C,0,none⟩)] w fun e w' =>∃(op a b c:Int) (k t:ByteArray),e= .returned (.agg (Qab 0 0 op a b c k t))/\Bd op a b c k t/\Only C w w' /\Drawn w' C A cap l:=by
 have hC:=hD.lt;have HD0:=hidP hD;clear hD;have bR:=Blk.new w 55 Qar;have HO:=hidP (Only.of_below (c:=C) (Qad (Below.refl _ w) (.cells Qar 55)));have HD:=hidP (HD0.out.below (Qad (Below.refl _ w) (.cells Qar 55)));have HI:=hidP (Qem (w.alloc (.cells Qar 55)) ([⟨1⟩,⟨1⟩,⟨1⟩,⟨2⟩,⟨2⟩,⟨3⟩,⟨4⟩,⟨4⟩,⟨5⟩,⟨6⟩,⟨7⟩,⟨8⟩,⟨9⟩,⟨10⟩]:List Nu) (Qcw (1) (1) (1) (2) (2) (3) (4) (4) (5) (6) (7) (8) (9) (10)) 3 rfl);rw[World.size_alloc]at HI;clear HD0;go_enter Tryz.func75,Tryz.ntmps75;go_wp2_with fail;refine(Qb6 C A cap l (w.heap.size+1) 0 14 ([⟨1⟩,⟨1⟩,⟨1⟩,⟨2⟩,⟨2⟩,⟨3⟩,⟨4⟩,⟨4⟩,⟨5⟩,⟨6⟩,⟨7⟩,⟨8⟩,⟨9⟩,⟨10⟩]:List Nu) (by simp) (by simp) _ ((HD.out).below (Qad (Below.refl _ _) (.cells (Qcw (1) (1) (1) (2) (2) (3) (4) (4) (5) (6) (7) (8) (9) (10)) 3))) (by simp) (by omega) HI.out).mono ?_;rintro e w1 ⟨y1,hy1,rfl,o_,d_⟩;replace bR:Blk w1 w.heap.size 55 Qar:=((bR).alloc (.cells (Qcw (1) (1) (1) (2) (2) (3) (4) (4) (5) (6) (7) (8) (9) (10)) 3)).only o_ (by omega);have q_:=o_.size
 try simp only[World.size_alloc,World.size_setCell]at q_
 replace HO:=hidP (((HO.out).below (Qad (Below.refl _ _) (.cells (Qcw (1) (1) (1) (2) (2) (3) (4) (4) (5) (6) (7) (8) (9) (10)) 3))).trans o_);replace HD:=hidP d_;clear o_ d_;have h1:1<=y1.n/\y1.n<=10:=by
  simp only[List.mem_cons,List.not_mem_nil,or_false]at hy1;rcases hy1 with rfl|rfl|rfl|rfl|rfl|rfl|rfl|rfl|rfl|rfl|rfl|rfl|rfl|rfl<;>exact⟨by decide,by decide⟩
 generalize y1.n=op at*;clear hy1 HI;go_wp2_with fail;refine(Qa3 C A cap l 3 (by omega) (by omega) _ (HD.out)).mono ?_;rintro e w2 ⟨a,rfl,ha0,ha1,o_,d_⟩;replace bR:Blk w2 w.heap.size 55 Qar:=(bR).only o_ (by omega);have q_:=o_.size
 try simp only[World.size_alloc,World.size_setCell]at q_
 replace HO:=hidP ((HO.out).trans o_);replace HD:=hidP d_;clear o_ d_;go_wp2_with fail;refine(Qa3 C A cap l 4 (by omega) (by omega) _ (HD.out)).mono ?_;rintro e w3 ⟨b,rfl,hb0,hb1,o_,d_⟩;replace bR:Blk w3 w.heap.size 55 Qar:=(bR).only o_ (by omega);have q_:=o_.size
 try simp only[World.size_alloc,World.size_setCell]at q_
 replace HO:=hidP ((HO.out).trans o_);replace HD:=hidP d_;clear o_ d_;go_wp2_with fail;refine(Qa3 C A cap l 3 (by omega) (by omega) _ (HD.out)).mono ?_;rintro e w4 ⟨c,rfl,hc0,hc1,o_,d_⟩;replace bR:Blk w4 w.heap.size 55 Qar:=(bR).only o_ (by omega);have q_:=o_.size
 try simp only[World.size_alloc,World.size_setCell]at q_
 replace HO:=hidP ((HO.out).trans o_);replace HD:=hidP d_;clear o_ d_;have bX:=Blk.new w4 55 (Qab 0 0 op a b c ⟨#[]⟩ ⟨#[]⟩);replace bR:=bR.alloc (.cells (Qab 0 0 op a b c ⟨#[]⟩ ⟨#[]⟩) 55);replace HO:=hidP (HO.out.below (Qad (Below.refl _ _) (.cells (Qab 0 0 op a b c ⟨#[]⟩ ⟨#[]⟩) 55)));replace HD:=hidP (HD.out.below (Qad (Below.refl _ _) (.cells (Qab 0 0 op a b c ⟨#[]⟩ ⟨#[]⟩) 55)));have hRX:w.heap.size≠w4.heap.size:=by omega
 by_cases e1:op=1
 . subst e1;go_wp2_with fail;refine(Qlh C A cap l _ HD.out).mono ?_;rintro e w5 ⟨k,rfl,hk1,hk2,o_,d_⟩;have hX:w.heap.size<w4.heap.size:=(by omega);generalize w4.heap.size=X at*;replace bR:Blk w5 w.heap.size 55 Qar:=bR.only o_ (by omega);replace bX:Blk w5 X 55 (Qab 0 0 1 a b c ⟨#[]⟩ ⟨#[]⟩):=bX.only o_ (by omega);replace HO:=hidP (HO.out.trans o_);replace HD:=hidP d_;clear o_ d_;have cx0:=bX.cell (i:=0) rfl;have cx1:=bX.cell (i:=1) rfl;have cx2:=bX.cell (i:=2) rfl;have cx3:=bX.cell (i:=3) rfl;have cx4:=bX.cell (i:=4) rfl;have cx5:=bX.cell (i:=5) rfl;have cx6:=bX.cell (i:=6) rfl;have cx7:=bX.cell (i:=7) rfl;have fx0:=bX.thaw 0;have fx1:=bX.thaw 1;have fx2:=bX.thaw 2;have fx3:=bX.thaw 3;have fx4:=bX.thaw 4;have fx5:=bX.thaw 5;have fx6:=bX.thaw 6;have fx7:=bX.thaw 7;have qX:=bX.lt;go_wp2_with fail;refine(Qlh C A cap l _ ((HD.out).only ((Only.refl X _).set 6 (.string k)) (by omega))).mono ?_;rintro e w6 ⟨t,rfl,ht1,ht2,o_,d_⟩;replace bR:Blk w6 w.heap.size 55 Qar:=((bR).other (B' :=X) (by omega) 6 (.string k)).only o_ (by omega);replace bX:Blk w6 X 55 (Qab 0 0 1 a b c k ⟨#[]⟩):=((bX).setAt 6 (.string k)).only o_ (by omega);have q_:=o_.size
   try simp only[World.size_alloc,World.size_setCell]at q_
   replace HO:=hidP ((Qaf (HO.out) ((Only.refl X _).set 6 (.string k)) (by omega)).trans o_);replace HD:=hidP d_;clear o_ d_;clear cx0 cx1 cx2 cx3 cx4 cx5 cx6 cx7 fx0 fx1 fx2 fx3 fx4 fx5 fx6 fx7 qX;have cx0:=bX.cell (i:=0) rfl;have cx1:=bX.cell (i:=1) rfl;have cx2:=bX.cell (i:=2) rfl;have cx3:=bX.cell (i:=3) rfl;have cx4:=bX.cell (i:=4) rfl;have cx5:=bX.cell (i:=5) rfl;have cx6:=bX.cell (i:=6) rfl;have cx7:=bX.cell (i:=7) rfl;have fx0:=bX.thaw 0;have fx1:=bX.thaw 1;have fx2:=bX.thaw 2;have fx3:=bX.thaw 3;have fx4:=bX.thaw 4;have fx5:=bX.thaw 5;have fx6:=bX.thaw 6;have fx7:=bX.thaw 7;have qX:=bX.lt;have HI:=hidP (Qem (w6.setCell ⟨X,7,none⟩ (.string t)) ([⟨0⟩,⟨0⟩,⟨0⟩,⟨1⟩]:List Nu) (Qaj (0) (0) (0) (1)) 3 rfl);rw[World.size_setCell]at HI;go_wp2_with fail;refine(Qb6 C A cap l w6.heap.size 0 4 ([⟨0⟩,⟨0⟩,⟨0⟩,⟨1⟩]:List Nu) (by simp) (by simp) _ (((HD.out).only ((Only.refl X _).set 7 (.string t)) (by omega)).below (Qad (Below.refl _ _) (.cells (Qaj (0) (0) (0) (1)) 3))) (by simp) (by omega) HI.out).mono ?_;rintro e w7 ⟨y2,hy2,rfl,o_,d_⟩;replace bR:Blk w7 w.heap.size 55 Qar:=(((bR).other (B' :=X) (by omega) 7 (.string t)).alloc (.cells (Qaj (0) (0) (0) (1)) 3)).only o_ (by omega);replace bX:Blk w7 X 55 (Qab 0 0 1 a b c k t):=(((bX).setAt 7 (.string t)).alloc (.cells (Qaj (0) (0) (0) (1)) 3)).only o_ (by omega);have q_:=o_.size
   try simp only[World.size_alloc,World.size_setCell]at q_
   replace HO:=hidP (((Qaf (HO.out) ((Only.refl X _).set 7 (.string t)) (by omega)).below (Qad (Below.refl _ _) (.cells (Qaj (0) (0) (0) (1)) 3))).trans o_);replace HD:=hidP d_;clear o_ d_;have hc:0<=y2.n/\y2.n<=2:=by
    simp only[List.mem_cons,List.not_mem_nil,or_false]at hy2;rcases hy2 with rfl|rfl|rfl|rfl<;>exact⟨by decide,by decide⟩
   generalize y2.n=c2 at*;clear hy2 HI;clear cx0 cx1 cx2 cx3 cx4 cx5 cx6 cx7 fx0 fx1 fx2 fx3 fx4 fx5 fx6 fx7 qX;have cx0:=bX.cell (i:=0) rfl;have cx1:=bX.cell (i:=1) rfl;have cx2:=bX.cell (i:=2) rfl;have cx3:=bX.cell (i:=3) rfl;have cx4:=bX.cell (i:=4) rfl;have cx5:=bX.cell (i:=5) rfl;have cx6:=bX.cell (i:=6) rfl;have cx7:=bX.cell (i:=7) rfl;have fx0:=bX.thaw 0;have fx1:=bX.thaw 1;have fx2:=bX.thaw 2;have fx3:=bX.thaw 3;have fx4:=bX.thaw 4;have fx5:=bX.thaw 5;have fx6:=bX.thaw 6;have fx7:=bX.thaw 7;have qX:=bX.lt;have rr0:=bR.cell (i:=0) rfl;have rr1:=bR.cell (i:=1) rfl;have rr2:=bR.cell (i:=2) rfl;have rr3:=bR.cell (i:=3) rfl;have rr4:=bR.cell (i:=4) rfl;have rr5:=bR.cell (i:=5) rfl;have rr6:=bR.cell (i:=6) rfl;have rr7:=bR.cell (i:=7) rfl;have zz0:=bR.thaw 0;have zz1:=bR.thaw 1;have zz2:=bR.thaw 2;have zz3:=bR.thaw 3;have zz4:=bR.thaw 4;have zz5:=bR.thaw 5;have zz6:=bR.thaw 6;have zz7:=bR.thaw 7;have qR:=bR.lt;have hF:Hid (∀W,Only C w W->Drawn W C A cap l->Only C w W):=hidP (fun _ h _=>h);clear hF;go_wp2
   exact bodyPost_ret (v:= .agg (Qab 0 0 1 a b c2 k t)) (by simp[results,Tryz.results75,go_sem,rr0,rr1,rr2,rr3,rr4,rr5,rr6,rr7,hRX]) rfl ⟨1,a,b,c2,k,t,rfl,⟨by omega,by omega,by omega,hc,⟨hk1,hk2⟩,⟨ht1,ht2⟩⟩,Qaf (Qaf (Qaf (Qaf (Qaf (Qaf (Qaf (Qaf (Qaf (HO.out) ((Only.refl X _).set 5 (.int .i64 c2)) (by omega)) ((Only.refl w.heap.size _).set 0 (.int .i64 0)) (by omega)) ((Only.refl w.heap.size _).set 1 (.int .i64 0)) (by omega)) ((Only.refl w.heap.size _).set 2 (.int .i64 1)) (by omega)) ((Only.refl w.heap.size _).set 3 (.int .i64 a)) (by omega)) ((Only.refl w.heap.size _).set 4 (.int .i64 b)) (by omega)) ((Only.refl w.heap.size _).set 5 (.int .i64 c2)) (by omega)) ((Only.refl w.heap.size _).set 6 (.string k)) (by omega)) ((Only.refl w.heap.size _).set 7 (.string t)) (by omega),(((((((((HD.out).only ((Only.refl X _).set 5 (.int .i64 c2)) (by omega)).only ((Only.refl w.heap.size _).set 0 (.int .i64 0)) (by omega)).only ((Only.refl w.heap.size _).set 1 (.int .i64 0)) (by omega)).only ((Only.refl w.heap.size _).set 2 (.int .i64 1)) (by omega)).only ((Only.refl w.heap.size _).set 3 (.int .i64 a)) (by omega)).only ((Only.refl w.heap.size _).set 4 (.int .i64 b)) (by omega)).only ((Only.refl w.heap.size _).set 5 (.int .i64 c2)) (by omega)).only ((Only.refl w.heap.size _).set 6 (.string k)) (by omega)).only ((Only.refl w.heap.size _).set 7 (.string t)) (by omega)⟩
 by_cases e8:op=8
 . subst e8;have HI:=hidP (Qem (w4.alloc (.cells (Qab 0 0 8 a b c ⟨#[]⟩ ⟨#[]⟩) 55)) ([⟨0⟩,⟨10⟩,⟨60⟩]:List Nu) (Qck (0) (10) (60)) 3 rfl);rw[World.size_alloc]at HI;go_wp2_with fail;refine(Qb6 C A cap l (w4.heap.size+1) 0 3 ([⟨0⟩,⟨10⟩,⟨60⟩]:List Nu) (by simp) (by simp) _ (HD.out.below (Qad (Below.refl _ _) (.cells (Qck (0) (10) (60)) 3))) (by simp) (by omega) HI.out).mono ?_;rintro e w5 ⟨y2,hy2,rfl,o_,d_⟩;have ha:0<=y2.n/\y2.n<=60:=by
    simp only[List.mem_cons,List.not_mem_nil,or_false]at hy2;rcases hy2 with rfl|rfl|rfl<;>exact⟨by decide,by decide⟩
   generalize y2.n=a2 at*;clear hy2 HI;have hX:w.heap.size<w4.heap.size:=(by omega);generalize w4.heap.size=X at*;replace bR:Blk w5 w.heap.size 55 Qar:=(bR.alloc (.cells (Qck (0) (10) (60)) 3)).only o_ (by omega);replace bX:Blk w5 X 55 (Qab 0 0 8 a b c ⟨#[]⟩ ⟨#[]⟩):=(bX.alloc (.cells (Qck (0) (10) (60)) 3)).only o_ (by omega);replace HO:=hidP ((HO.out.below (Qad (Below.refl _ _) (.cells (Qck (0) (10) (60)) 3))).trans o_);replace HD:=hidP d_;clear o_ d_;have cx0:=bX.cell (i:=0) rfl;have cx1:=bX.cell (i:=1) rfl;have cx2:=bX.cell (i:=2) rfl;have cx3:=bX.cell (i:=3) rfl;have cx4:=bX.cell (i:=4) rfl;have cx5:=bX.cell (i:=5) rfl;have cx6:=bX.cell (i:=6) rfl;have cx7:=bX.cell (i:=7) rfl;have fx0:=bX.thaw 0;have fx1:=bX.thaw 1;have fx2:=bX.thaw 2;have fx3:=bX.thaw 3;have fx4:=bX.thaw 4;have fx5:=bX.thaw 5;have fx6:=bX.thaw 6;have fx7:=bX.thaw 7;have qX:=bX.lt;have rr0:=bR.cell (i:=0) rfl;have rr1:=bR.cell (i:=1) rfl;have rr2:=bR.cell (i:=2) rfl;have rr3:=bR.cell (i:=3) rfl;have rr4:=bR.cell (i:=4) rfl;have rr5:=bR.cell (i:=5) rfl;have rr6:=bR.cell (i:=6) rfl;have rr7:=bR.cell (i:=7) rfl;have zz0:=bR.thaw 0;have zz1:=bR.thaw 1;have zz2:=bR.thaw 2;have zz3:=bR.thaw 3;have zz4:=bR.thaw 4;have zz5:=bR.thaw 5;have zz6:=bR.thaw 6;have zz7:=bR.thaw 7;have qR:=bR.lt;have hF:Hid (∀W,Only C w W->Drawn W C A cap l->Only C w W):=hidP (fun _ h _=>h);clear hF;go_wp2
   exact bodyPost_ret (v:= .agg (Qab 0 0 8 a2 b c ⟨#[]⟩ ⟨#[]⟩)) (by simp[results,Tryz.results75,go_sem,rr0,rr1,rr2,rr3,rr4,rr5,rr6,rr7,hRX]) rfl ⟨8,a2,b,c,⟨#[]⟩,⟨#[]⟩,rfl,⟨by omega,ha,by omega,by omega,Qle,Qle⟩,Qaf (Qaf (Qaf (Qaf (Qaf (Qaf (Qaf (Qaf (Qaf (HO.out) ((Only.refl X _).set 3 (.int .i64 a2)) (by omega)) ((Only.refl w.heap.size _).set 0 (.int .i64 0)) (by omega)) ((Only.refl w.heap.size _).set 1 (.int .i64 0)) (by omega)) ((Only.refl w.heap.size _).set 2 (.int .i64 8)) (by omega)) ((Only.refl w.heap.size _).set 3 (.int .i64 a2)) (by omega)) ((Only.refl w.heap.size _).set 4 (.int .i64 b)) (by omega)) ((Only.refl w.heap.size _).set 5 (.int .i64 c)) (by omega)) ((Only.refl w.heap.size _).set 6 (.string ⟨#[]⟩)) (by omega)) ((Only.refl w.heap.size _).set 7 (.string ⟨#[]⟩)) (by omega),(((((((((HD.out).only ((Only.refl X _).set 3 (.int .i64 a2)) (by omega)).only ((Only.refl w.heap.size _).set 0 (.int .i64 0)) (by omega)).only ((Only.refl w.heap.size _).set 1 (.int .i64 0)) (by omega)).only ((Only.refl w.heap.size _).set 2 (.int .i64 8)) (by omega)).only ((Only.refl w.heap.size _).set 3 (.int .i64 a2)) (by omega)).only ((Only.refl w.heap.size _).set 4 (.int .i64 b)) (by omega)).only ((Only.refl w.heap.size _).set 5 (.int .i64 c)) (by omega)).only ((Only.refl w.heap.size _).set 6 (.string ⟨#[]⟩)) (by omega)).only ((Only.refl w.heap.size _).set 7 (.string ⟨#[]⟩)) (by omega)⟩
 have cx0:=bX.cell (i:=0) rfl;have cx1:=bX.cell (i:=1) rfl;have cx2:=bX.cell (i:=2) rfl;have cx3:=bX.cell (i:=3) rfl;have cx4:=bX.cell (i:=4) rfl;have cx5:=bX.cell (i:=5) rfl;have cx6:=bX.cell (i:=6) rfl;have cx7:=bX.cell (i:=7) rfl;have fx0:=bX.thaw 0;have fx1:=bX.thaw 1;have fx2:=bX.thaw 2;have fx3:=bX.thaw 3;have fx4:=bX.thaw 4;have fx5:=bX.thaw 5;have fx6:=bX.thaw 6;have fx7:=bX.thaw 7;have qX:=bX.lt;have rr0:=bR.cell (i:=0) rfl;have rr1:=bR.cell (i:=1) rfl;have rr2:=bR.cell (i:=2) rfl;have rr3:=bR.cell (i:=3) rfl;have rr4:=bR.cell (i:=4) rfl;have rr5:=bR.cell (i:=5) rfl;have rr6:=bR.cell (i:=6) rfl;have rr7:=bR.cell (i:=7) rfl;have zz0:=bR.thaw 0;have zz1:=bR.thaw 1;have zz2:=bR.thaw 2;have zz3:=bR.thaw 3;have zz4:=bR.thaw 4;have zz5:=bR.thaw 5;have zz6:=bR.thaw 6;have zz7:=bR.thaw 7;have qR:=bR.lt;have hF:Hid (∀W,Only C w W->Drawn W C A cap l->Only C w W):=hidP (fun _ h _=>h);clear hF;go_wp2
 exact bodyPost_ret (v:= .agg (Qab 0 0 op a b c ⟨#[]⟩ ⟨#[]⟩)) (by simp[results,Tryz.results75,go_sem,rr0,rr1,rr2,rr3,rr4,rr5,rr6,rr7,hRX]) rfl ⟨op,a,b,c,⟨#[]⟩,⟨#[]⟩,rfl,⟨h1,by omega,by omega,by omega,Qle,Qle⟩,Qaf (Qaf (Qaf (Qaf (Qaf (Qaf (Qaf (Qaf (HO.out) ((Only.refl w.heap.size _).set 0 (.int .i64 0)) (by omega)) ((Only.refl w.heap.size _).set 1 (.int .i64 0)) (by omega)) ((Only.refl w.heap.size _).set 2 (.int .i64 op)) (by omega)) ((Only.refl w.heap.size _).set 3 (.int .i64 a)) (by omega)) ((Only.refl w.heap.size _).set 4 (.int .i64 b)) (by omega)) ((Only.refl w.heap.size _).set 5 (.int .i64 c)) (by omega)) ((Only.refl w.heap.size _).set 6 (.string ⟨#[]⟩)) (by omega)) ((Only.refl w.heap.size _).set 7 (.string ⟨#[]⟩)) (by omega),((((((((HD.out).only ((Only.refl w.heap.size _).set 0 (.int .i64 0)) (by omega)).only ((Only.refl w.heap.size _).set 1 (.int .i64 0)) (by omega)).only ((Only.refl w.heap.size _).set 2 (.int .i64 op)) (by omega)).only ((Only.refl w.heap.size _).set 3 (.int .i64 a)) (by omega)).only ((Only.refl w.heap.size _).set 4 (.int .i64 b)) (by omega)).only ((Only.refl w.heap.size _).set 5 (.int .i64 c)) (by omega)).only ((Only.refl w.heap.size _).set 6 (.string ⟨#[]⟩)) (by omega)).only ((Only.refl w.heap.size _).set 7 (.string ⟨#[]⟩)) (by omega)⟩
def Dc (who seq op a b c:Int) (k t:ByteArray):Prop:=(who= -1/\seq=0/\op=0/\a=0/\b=0/\c=0/\k=⟨#[]⟩/\t=⟨#[]⟩)∨(0<=who/\who<=3/\1<=seq/\seq<=6/\Bd op a b c k t)
theorem Dc.size {who seq op a b c:Int} {k t:ByteArray} (h:Dc who seq op a b c k t):k.size<=30/\t.size<=30:=by
 rcases h with⟨_,_,_,_,_,_,rfl,rfl⟩|⟨_,_,_,_,h⟩
 . exact⟨by decide,by decide⟩
 . exact⟨h.k.le,h.t.le⟩
theorem Qee (C:Nat) (A:Option Addr) (cap:Nat) (l:List By) (w:World) (hD:Drawn w C A cap l):
 Calls Tryz.prog 48 #[.pointer (some ⟨C,0,none⟩)] w fun e w' =>∃(who seq op a b c:Int) (k t:ByteArray),e= .returned (.agg (Qab who seq op a b c k t))/\Dc who seq op a b c k t/\Only C w w' /\Drawn w' C A cap l:=by
 have hC:=hD.lt;have HD0:=hidP hD;clear hD;have bR:=Blk.new w 55 Qar;have HO:=hidP (Only.of_below (c:=C) (Qad (Below.refl _ w) (.cells Qar 55)));have HD:=hidP (HD0.out.below (Qad (Below.refl _ w) (.cells Qar 55)));clear HD0;go_enter Tryz.func48,Tryz.ntmps48;go_wp2_with fail;refine(Qic C A cap l 10 (by omega) (by omega) _ (HD.out)).mono ?_;rintro e w1 ⟨q,rfl,o_,d_⟩;replace bR:Blk w1 w.heap.size 55 Qar:=(bR).only o_ (by omega);have q_:=o_.size
 try simp only[World.size_alloc,World.size_setCell]at q_
 replace HO:=hidP ((HO.out).trans o_);replace HD:=hidP d_;clear o_ d_;cases q with
 |true=>
  have rr0:=bR.cell (i:=0) rfl;have rr1:=bR.cell (i:=1) rfl;have rr2:=bR.cell (i:=2) rfl;have rr3:=bR.cell (i:=3) rfl;have rr4:=bR.cell (i:=4) rfl;have rr5:=bR.cell (i:=5) rfl;have rr6:=bR.cell (i:=6) rfl;have rr7:=bR.cell (i:=7) rfl;have zz0:=bR.thaw 0;have zz1:=bR.thaw 1;have zz2:=bR.thaw 2;have zz3:=bR.thaw 3;have zz4:=bR.thaw 4;have zz5:=bR.thaw 5;have zz6:=bR.thaw 6;have zz7:=bR.thaw 7;have qR:=bR.lt;have hF:Hid (∀W,Only C w W->Drawn W C A cap l->Only C w W):=hidP (fun _ h _=>h);clear hF;go_wp2;exact bodyPost_ret (v:= .agg (Qab (-1) 0 0 0 0 0 ⟨#[]⟩ ⟨#[]⟩)) (by simp[results,Tryz.results48,go_sem,rr0,rr1,rr2,rr3,rr4,rr5,rr6,rr7]) rfl ⟨-1,0,0,0,0,0,⟨#[]⟩,⟨#[]⟩,rfl,.inl ⟨rfl,rfl,rfl,rfl,rfl,rfl,rfl,rfl⟩,Qaf (Qaf (Qaf (Qaf (Qaf (Qaf (Qaf (Qaf (HO.out) ((Only.refl w.heap.size _).set 0 (.int .i64 (-1))) (by omega)) ((Only.refl w.heap.size _).set 1 (.int .i64 0)) (by omega)) ((Only.refl w.heap.size _).set 2 (.int .i64 0)) (by omega)) ((Only.refl w.heap.size _).set 3 (.int .i64 0)) (by omega)) ((Only.refl w.heap.size _).set 4 (.int .i64 0)) (by omega)) ((Only.refl w.heap.size _).set 5 (.int .i64 0)) (by omega)) ((Only.refl w.heap.size _).set 6 (.string ⟨#[]⟩)) (by omega)) ((Only.refl w.heap.size _).set 7 (.string ⟨#[]⟩)) (by omega),((((((((HD.out).only ((Only.refl w.heap.size _).set 0 (.int .i64 (-1))) (by omega)).only ((Only.refl w.heap.size _).set 1 (.int .i64 0)) (by omega)).only ((Only.refl w.heap.size _).set 2 (.int .i64 0)) (by omega)).only ((Only.refl w.heap.size _).set 3 (.int .i64 0)) (by omega)).only ((Only.refl w.heap.size _).set 4 (.int .i64 0)) (by omega)).only ((Only.refl w.heap.size _).set 5 (.int .i64 0)) (by omega)).only ((Only.refl w.heap.size _).set 6 (.string ⟨#[]⟩)) (by omega)).only ((Only.refl w.heap.size _).set 7 (.string ⟨#[]⟩)) (by omega)⟩
 |false=>
  go_wp2_with fail;refine(Qkg C A cap l _ (HD.out)).mono ?_;rintro e w2 ⟨op,a,b,c,k,t,rfl,hbd,o_,d_⟩;replace bR:Blk w2 w.heap.size 55 Qar:=(bR).only o_ (by omega);have q_:=o_.size
  try simp only[World.size_alloc,World.size_setCell]at q_
  replace HO:=hidP ((HO.out).trans o_);replace HD:=hidP d_;clear o_ d_;have Hbd:=hidP hbd;clear hbd;have bX:=Blk.new w2 55 (Qab 0 0 op a b c k t);replace bR:=bR.alloc (.cells (Qab 0 0 op a b c k t) 55);replace HO:=hidP (HO.out.below (Qad (Below.refl _ _) (.cells (Qab 0 0 op a b c k t) 55)));replace HD:=hidP (HD.out.below (Qad (Below.refl _ _) (.cells (Qab 0 0 op a b c k t) 55)));have hRX:w.heap.size≠w2.heap.size:=by omega
  go_wp2_with fail;refine(Qa3 C A cap l 4 (by omega) (by omega) _ HD.out).mono ?_;rintro e w3 ⟨who,rfl,hw0,hw1,o_,d_⟩;have hX:w.heap.size<w2.heap.size:=by omega
  generalize w2.heap.size=X at*;replace bR:Blk w3 w.heap.size 55 Qar:=bR.only o_ (by omega);replace bX:Blk w3 X 55 (Qab 0 0 op a b c k t):=bX.only o_ (by omega);replace HO:=hidP (HO.out.trans o_);replace HD:=hidP d_;clear o_ d_;have cx0:=bX.cell (i:=0) rfl;have cx1:=bX.cell (i:=1) rfl;have cx2:=bX.cell (i:=2) rfl;have cx3:=bX.cell (i:=3) rfl;have cx4:=bX.cell (i:=4) rfl;have cx5:=bX.cell (i:=5) rfl;have cx6:=bX.cell (i:=6) rfl;have cx7:=bX.cell (i:=7) rfl;have fx0:=bX.thaw 0;have fx1:=bX.thaw 1;have fx2:=bX.thaw 2;have fx3:=bX.thaw 3;have fx4:=bX.thaw 4;have fx5:=bX.thaw 5;have fx6:=bX.thaw 6;have fx7:=bX.thaw 7;have qX:=bX.lt;go_wp2_with fail;refine(Qa3 C A cap l 6 (by omega) (by omega) _ ((HD.out).only ((Only.refl X _).set 0 (.int .i64 who)) (by omega))).mono ?_;rintro e w4 ⟨sq,rfl,hs0,hs1,o_,d_⟩;replace bR:Blk w4 w.heap.size 55 Qar:=((bR).other (B' :=X) (by omega) 0 (.int .i64 who)).only o_ (by omega);replace bX:Blk w4 X 55 (Qab who 0 op a b c k t):=((bX).setAt 0 (.int .i64 who)).only o_ (by omega);have q_:=o_.size
  try simp only[World.size_alloc,World.size_setCell]at q_
  replace HO:=hidP ((Qaf (HO.out) ((Only.refl X _).set 0 (.int .i64 who)) (by omega)).trans o_);replace HD:=hidP d_;clear o_ d_;clear cx0 cx1 cx2 cx3 cx4 cx5 cx6 cx7 fx0 fx1 fx2 fx3 fx4 fx5 fx6 fx7 qX;have cx0:=bX.cell (i:=0) rfl;have cx1:=bX.cell (i:=1) rfl;have cx2:=bX.cell (i:=2) rfl;have cx3:=bX.cell (i:=3) rfl;have cx4:=bX.cell (i:=4) rfl;have cx5:=bX.cell (i:=5) rfl;have cx6:=bX.cell (i:=6) rfl;have cx7:=bX.cell (i:=7) rfl;have fx0:=bX.thaw 0;have fx1:=bX.thaw 1;have fx2:=bX.thaw 2;have fx3:=bX.thaw 3;have fx4:=bX.thaw 4;have fx5:=bX.thaw 5;have fx6:=bX.thaw 6;have fx7:=bX.thaw 7;have qX:=bX.lt;obtain⟨seq,hseq⟩:∃s:Int,s=1+sq:=⟨_,rfl⟩
  have hseq1:1<=seq/\seq<=6:=by omega
  have rr0:=bR.cell (i:=0) rfl;have rr1:=bR.cell (i:=1) rfl;have rr2:=bR.cell (i:=2) rfl;have rr3:=bR.cell (i:=3) rfl;have rr4:=bR.cell (i:=4) rfl;have rr5:=bR.cell (i:=5) rfl;have rr6:=bR.cell (i:=6) rfl;have rr7:=bR.cell (i:=7) rfl;have zz0:=bR.thaw 0;have zz1:=bR.thaw 1;have zz2:=bR.thaw 2;have zz3:=bR.thaw 3;have zz4:=bR.thaw 4;have zz5:=bR.thaw 5;have zz6:=bR.thaw 6;have zz7:=bR.thaw 7;have qR:=bR.lt;have hF:Hid (∀W,Only C w W->Drawn W C A cap l->Only C w W):=hidP (fun _ h _=>h);clear hF;go_wp2
  exact bodyPost_ret (v:= .agg (Qab who (1+sq) op a b c k t)) (by simp[results,Tryz.results48,go_sem,rr0,rr1,rr2,rr3,rr4,rr5,rr6,rr7,hRX]) rfl ⟨who,1+sq,op,a,b,c,k,t,rfl,.inr ⟨by omega,by omega,by omega,by omega,Hbd.out⟩,Qaf (Qaf (Qaf (Qaf (Qaf (Qaf (Qaf (Qaf (Qaf (HO.out) ((Only.refl X _).set 1 (.int .i64 (1+sq))) (by omega)) ((Only.refl w.heap.size _).set 0 (.int .i64 who)) (by omega)) ((Only.refl w.heap.size _).set 1 (.int .i64 (1+sq))) (by omega)) ((Only.refl w.heap.size _).set 2 (.int .i64 op)) (by omega)) ((Only.refl w.heap.size _).set 3 (.int .i64 a)) (by omega)) ((Only.refl w.heap.size _).set 4 (.int .i64 b)) (by omega)) ((Only.refl w.heap.size _).set 5 (.int .i64 c)) (by omega)) ((Only.refl w.heap.size _).set 6 (.string k)) (by omega)) ((Only.refl w.heap.size _).set 7 (.string t)) (by omega),(((((((((HD.out).only ((Only.refl X _).set 1 (.int .i64 (1+sq))) (by omega)).only ((Only.refl w.heap.size _).set 0 (.int .i64 who)) (by omega)).only ((Only.refl w.heap.size _).set 1 (.int .i64 (1+sq))) (by omega)).only ((Only.refl w.heap.size _).set 2 (.int .i64 op)) (by omega)).only ((Only.refl w.heap.size _).set 3 (.int .i64 a)) (by omega)).only ((Only.refl w.heap.size _).set 4 (.int .i64 b)) (by omega)).only ((Only.refl w.heap.size _).set 5 (.int .i64 c)) (by omega)).only ((Only.refl w.heap.size _).set 6 (.string k)) (by omega)).only ((Only.refl w.heap.size _).set 7 (.string t)) (by omega)⟩
end Go.Proofs.YtajbldnhjpjghaaGreat.Gen
namespace Go.Proofs.YtajbldnhjpjghaaGreat.Items
open ChangeShapes WideShapes ChangeAt RowKit Base
structure Only (b:Nat) (w w' :World):Prop where
  os:w'.os=w.os
  tape:w'.tape=w.tape
  output:w'.output=w.output
  size:w.heap.size<=w'.heap.size
  block:∀k,k<w.heap.size->k≠b->w'.heap[k]? =w.heap[k]?
theorem Only.refl (b:Nat) (w:World):Only b w w:=⟨rfl,rfl,rfl,Nat.le_refl _,fun _ _ _=>rfl⟩
theorem Only.below {b:Nat} {w w1 w2:World} (h:Only b w w1) (k:Below w1.heap.size w1 w2):Only b w w2:=
 ⟨k.os.trans h.os,k.tape.trans h.tape,k.output.trans h.output,Nat.le_trans h.size k.size,fun i hi hb=>(k.block i (Nat.lt_of_lt_of_le hi h.size)).trans (h.block i hi hb)⟩
theorem Only.set {b:Nat} {w w1:World} (h:Only b w w1) (o:Nat) (v:Value):Only b w (w1.setCell ⟨b,o,none⟩ v):=
 ⟨h.os,h.tape,h.output,by simpa using h.size,fun i hi hb=>(Below.heap_setCell w1 ⟨b,o,none⟩ v i hb).trans (h.block i hi hb)⟩
theorem Only.toBelow {b B:Nat} {w w1:World} (h:Only b w w1) (hB:B<=b) (hw:B<=w.heap.size):Below B w w1:=
 ⟨h.os,h.tape,h.output,h.size,fun i hi=>h.block i (by omega) (by omega)⟩
theorem Only.cell {b:Nat} {w w1:World} (h:Only b w w1) {p:Addr} (hp:p.block<w.heap.size) (hb:p.block≠b):w1.cell? p=w.cell? p:=World.cell?_of_block (h.block p.block hp hb)
theorem Only.frozen {b:Nat} {w w1:World} (h:Only b w w1) {p:Addr} (hp:p.block<w.heap.size) (hb:p.block≠b):w1.frozen? p=w.frozen? p:=World.frozen?_of_block (h.block p.block hp hb)
theorem In.only {b c o:Nat} {w w1:World} {l:List It} (h:In w c o l) (k:Only b w w1) (hc:c<w.heap.size) (hb:c≠b):In w1 c o l:=
 fun j v hv=>(k.cell (p:=⟨c,o+j,none⟩) hc hb).trans (h j v hv)
def Qt7 (z:Int):It:=⟨z,Qta (z+1),Qta (z+2),z+3,z+4⟩
def marks (n:Nat) (z:Int):List It:=(List.range n).map fun(i:Nat)=>Qt7 (z+(i:Int) *5)
theorem Qfd {w w' :World} {b o:Nat} {cs:List Value} (h:w.rangeAt b o cs) (hb:b<w.heap.size) (hw:Below w.heap.size w w'):w'.rangeAt b o cs:=
 fun j v hv=>(hw.cell (p:=⟨b,o+j,none⟩) hb).trans (h j v hv)
theorem call {w w' :World} {b o m:Nat} {cs:List Value} (h:w.rangeAt b o cs/\w.there b o m/\b<w.heap.size) (k:Below w.heap.size w w'):w'.rangeAt b o cs/\w'.there b o m/\b<w'.heap.size:=
 ⟨Qfd h.1 h.2.2 k,Qgm h.2.1 h.2.2 k,Nat.lt_of_lt_of_le h.2.2 k.size⟩
end Go.Proofs.YtajbldnhjpjghaaGreat.Items
namespace Go.Proofs.YtajbldnhjpjghaaGreat.Gen
open ChangeShapes WideShapes ChangeAt RowKit Joins Deep Base
open Items (It)
instance:Cel It where
  k:=5
  cs:=It.cs
  len _:=rfl
  one x u hu:=by simp[It.cs]at hu;rcases hu with rfl|rfl|rfl|rfl|rfl<;>rfl
structure RC where
  start:Int
  next:Int
  A:Option Addr
  cap:Nat
  its:List It
instance:Inhabited RC:=⟨⟨0,0,none,0,[]⟩⟩
instance:Cel RC where
  k:=3
  cs x:= [.int .i64 x.start,.int .i64 x.next,.slice x.A x.its.length x.cap]
  len _:=rfl
  one x u hu:=by simp at hu;rcases hu with rfl|rfl|rfl<;>rfl
structure PR where
  start:Int
  next:Int
  its:List It
def RC.p (x:RC):PR:=⟨x.start,x.next,x.its⟩
def EachR (w:World) (l:List RC):Prop:=∀x∈l,At w x.A x.its
theorem EachR.below {w w' :World} {l:List RC} (h:EachR w l) (hw:Below w.heap.size w w'):EachR w' l:=fun x hx=>(h x hx).below hw
def rowP (w:World) (x:RC) (S:Nat->Prop):Prop:=Sub w x.A x.its S
theorem Qfc:Firm rowP:=fun w w' x S T h k hd=>Sub.offp h k hd
theorem In.getRC {w:World} {b o:Nat} {l:List RC} (h:In w b o l) (i:Nat) (hi:i<l.length):
 w.cell? ⟨b,o+i*3,none⟩=some (.int .i64 l[i].start)/\w.cell? ⟨b,o+i*3+1,none⟩=some (.int .i64 l[i].next)/\w.cell? ⟨b,o+i*3+2,none⟩=some (.slice l[i].A l[i].its.length l[i].cap):=
 ⟨h.cell i hi (f:=0) rfl,h.cell i hi (f:=1) rfl,h.cell i hi (f:=2) rfl⟩
theorem Qrc:(Tryz.prog.info? 134).map (fun i=>(i.zero,i.size,i.bytes))=some (some (.agg Qco),3,40):=by kernel_rfl
def cR (x:RC):Nat:=2+x.its.length*5
structure Three (n:Nat) (w:World) (x y z:Nat) (m b o:List Int):Prop where
  nx:n<=x
  xy:x<y
  yz:y<z
  zs:z<w.heap.size
  im:In w x 0 m
  ib:In w y 0 b
  io:In w z 0 o
  tm:w.there x 0 (m.length*1)
  tb:w.there y 0 (b.length*1)
  tz:w.there z 0 (o.length*1)
end Go.Proofs.YtajbldnhjpjghaaGreat.Gen
