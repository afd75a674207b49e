/-
  Numbers, texts and bytes that are drawn. Condition: at most 1048576 bytes of code.
-/
import Derived.Test.YtpippjjhelgnlaaGreatKGr4
set_option linter.unusedVariables false
set_option linter.unusedSimpArgs false
set_option maxRecDepth 100000
set_option maxHeartbeats 8000000
namespace Go.Proofs.YtpippjjhelgnlaaGreat.Gen
open ChangeShapes WideShapes ChangeAt RowKit Joins Deep Base
theorem newIn {α:Type} [Cel α] (W:World) (L:List α) (cs:Array Value) (tt:TypeId) (h:cs.toList=flat L):In (W.alloc (.cells cs tt)) W.heap.size 0 L:=by
 intro j v hv;rw[← h]at hv;exact(Blk.new W tt cs).cell (i:=0+j) (by simpa using hv)
theorem Qgt {B:Nat} {W:World} {a:Option Addr} {c n k:Nat} {t:TypeId} {xs:List Value} (h:W.ownsRow B t k (.slice a n c) n xs):n<=c/\c<=9223372036854775807:=by
 rcases h.2 with⟨e,h0⟩|⟨g,c',cur,e,_,_,hc,hm,_⟩
 . cases e;omega
 . cases e;exact⟨hc,by simpa [maxLen]using Nat.le_trans hm (by simp[maxLen])⟩
theorem Qdr {B:Nat} {W W' :World} {a:Option Addr} {n c k m:Nat} {t:TypeId} {xs:List Value} (hO:W.ownsRow B t k (.slice a n c) m xs) (hB:B<=W.heap.size) (g:W.grownBy W' (Value.slice a n c).ownBlock):Below B W W' :=
 ⟨g.os,g.tape,g.output,g.size,fun j hj=>g.block j (by omega) (Qa7 hO hj)⟩
theorem Qfr {C B:Nat} {w W W' :World} (h:Only C w W) (hB:w.heap.size<=B) (g:Below B W W'):Only C w W' :=
 ⟨g.os.trans h.os,g.tape.trans h.tape,g.output.trans h.output,Nat.le_trans h.size g.size,fun k hk hne=>(g.block k (by omega)).trans (h.block k hk hne)⟩
theorem Drawn.under {W W' :World} {C cap n:Nat} {A:Option Addr} {l:List By} (h:Drawn W C A cap l) (g:Below n W W') (hC:C<n):Drawn W' C A cap l:=by
 refine⟨?_,h.code.imp id fun⟨b,o,e,hb,hi⟩=>⟨b,o,e,hb,fun j v hv=>(World.cell?_of_block (a:=⟨b,o+j,none⟩) (g.block b (by omega))).trans (hi j v hv)⟩,h.len,h.byte⟩;obtain⟨i,x,hi,hb⟩:=h.cur;exact⟨i,x,hi,(g.block C hC).trans hb⟩
theorem appendB {B:Nat} {a a' :Option Addr} {c c' :Nat} {xs ys:List UInt8} {W:World} (hB:B<=W.heap.size) (hv:W.ownsRow B 5 1 (.slice a xs.length c) xs.length (flat xs)) (hy:At W a' ys) (hlen:xs.length+ys.length<=3000000):
 ∃a2 c2 W',(Builtin.append_ #[22,22] 22 #[.slice a xs.length c,.slice a' ys.length c']).run Tryz.prog W= .ok (.slice a2 (xs++ys).length c2) W' /\
  W'.ownsRow B 5 1 (.slice a2 (xs++ys).length c2) (xs++ys).length (flat (xs++ys))/\Below B W W' :=by
 obtain⟨v',W',hr,hown,hg,_⟩:=Qbh (P:=Tryz.prog) (ts:=22) Tryz.underlying22 Qk1 rfl (by decide) (by decide) B (.slice a xs.length c) xs ys a' c' W hB hv hy hlen;obtain⟨a2,c2,rfl,_⟩:=Qao hown;have e:(xs++ys).length=xs.length+ys.length:=by simp
 exact⟨a2,c2,W',by rw[e];exact hr,by rw[e];exact hown,Qdr hv hB hg⟩
theorem Qh2 {x:Int} (h0:0<=x) (h1:x<=255):((u8 x).toNat:Int)=x:=by rw[u8_toNat];omega
def Sat (C:Nat) (w:World) (a:Option Addr) (L:List UInt8):Prop:=At w a L/\(L= []∨∀b o,a=some ⟨b,o,none⟩->b≠C)
theorem Sat.below {C:Nat} {w w' :World} {a:Option Addr} {L:List UInt8} (h:Sat C w a L) (g:Below w.heap.size w w'):Sat C w' a L:=⟨h.1.below g,h.2⟩
theorem Sat.only {C:Nat} {w w' :World} {a:Option Addr} {L:List UInt8} (h:Sat C w a L) (g:Only C w w'):Sat C w' a L:=by
 refine⟨?_,h.2⟩;rcases h.1 with e|⟨b,o,e,hb,hi⟩
 . exact .inl e
 . rcases h.2 with e2|h2
   . exact .inl e2
   . exact .inr ⟨b,o,e,Nat.lt_of_lt_of_le hb g.size,fun j v hv=>(g.cell (p:=⟨b,o+j,none⟩) hb (h2 b o e)).trans (hi j v hv)⟩
theorem Qhr {B C:Nat} {w:World} {a:Option Addr} {c:Nat} {L:List UInt8} {t:TypeId} (h:w.ownsRow B t 1 (.slice a L.length c) L.length (flat L)) (hC:C<B):Sat C w a L:=by
 refine⟨(Qa0 h).at,?_⟩;rcases h.2 with⟨e,h0⟩|⟨g,c',cur,e,hB,_⟩
 . exact .inl (List.length_eq_zero_iff.1 h0)
 . cases e;refine .inr fun b o e2=> ?_
   cases e2;omega
theorem cut_to (a:Option Addr) (n c m:Nat) (hm:m<=c) (hc:c<=9223372036854775807) (W:World):
 (Instr.slice 22 (.slice a n c) none (some (.int .i64 (m:Int))) none).run Tryz.prog W= .ok (.slice a m c) W:=by
 obtain⟨i0,hi,hz0,hz1,hz2⟩:=info_parts Qk1;have hsz:∀W:World,(sizeOf 5).run Tryz.prog W= .ok 1 W:=fun W=>by simp[sizeOf,typeInfo,hi,hz1]
 cases a with
 |none=>simp[Instr.slice,run_underlying Tryz.underlying22,Instr.sliceBounds,Instr.sliceBound,asIntOf,hsz,hm]
 |some v=>
  simp[Instr.slice,run_underlying Tryz.underlying22,Instr.sliceBounds,Instr.sliceBound,asIntOf,hsz,hm];intro _;rfl
theorem take_at {w:World} {a:Option Addr} {L:List UInt8} (h:At w a L) (n:Nat):At w a (L.take n):=by
 rcases h with rfl|⟨b,o,e,hb,hi⟩
 . exact .inl (by simp)
 . refine .inr ⟨b,o,e,hb,?_⟩;intro j v hv;refine hi j v ?_;rw[Qd0]at hv ⊢;rw[List.getElem?_map]at hv ⊢;have hj:j<(L.take n).length:=by
    cases hq:(L.take n)[j]? with
    |none=>rw[hq]at hv;cases hv
    |some x=>exact(List.getElem?_eq_some_iff.1 hq).1
   rw[List.getElem?_take_of_lt (by rw[List.length_take]at hj;omega)]at hv;exact hv
theorem sat_take {C:Nat} {w:World} {a:Option Addr} {L:List UInt8} (h:Sat C w a L) (n:Nat):Sat C w a (L.take n):=⟨take_at h.1 n,h.2.imp (fun e=>by rw[e];simp) id⟩
end Go.Proofs.YtpippjjhelgnlaaGreat.Gen
namespace Go.Proofs.YtpippjjhelgnlaaGreat.Gen
open ChangeShapes WideShapes ChangeAt RowKit Joins Deep Base
open Items (It)
structure DL {α:Type} [Cel α] (t:TypeId) (w W:World) (C cap:Nat) (A:Option Addr) (l:List By) (a:Option Addr) (c:Nat) (xs:List α):Prop where
  on:Only C w W
  dr:Drawn W C A cap l
  own:W.ownsRow w.heap.size t (Cel.k α) (.slice a xs.length c) xs.length (flat xs)
  hC:C<w.heap.size
section
variable {α:Type} [Cel α] {t:TypeId} {w W W' :World} {C cap:Nat} {A:Option Addr} {l:List By} {a:Option Addr} {c:Nat} {xs:List α}
theorem DL.size (h:DL t w W C cap A l a c xs):w.heap.size<=W.heap.size:=h.on.size
theorem DL.below (h:DL t w W C cap A l a c xs) (g:Below W.heap.size W W'):DL t w W' C cap A l a c xs:=⟨h.on.below g,h.dr.below g,Qav h.own g,h.hC⟩
theorem DL.alloc (h:DL t w W C cap A l a c xs) (ob:Obj):DL t w (W.alloc ob) C cap A l a c xs:=h.below (Qad (Below.refl _ _) _)
theorem DL.only (h:DL t w W C cap A l a c xs) (k:Only C W W') (d:Drawn W' C A cap l):DL t w W' C cap A l a c xs:=
 ⟨h.on.trans k,d,Qbd h.own (Offp.of_only k) (fun y hy e=>by have:=(h.own.lt y hy).1;have:=h.hC;omega),h.hC⟩
theorem DL.box {q:Nat} (h:DL t w W C cap A l a c xs) (k:Only q W W') (hq:w.heap.size<=q) (ho:(Value.slice a xs.length c).ownBlock≠some q):DL t w W' C cap A l a c xs:=
 ⟨Qar h.on k hq,h.dr.only k (by have:=h.hC;omega),Qbd h.own (Offp.of_only k) (fun y hy e=>ho (by rw[hy,e])),h.hC⟩
theorem DL.app {ts:TypeId} {z:Value} {bytes:Nat} (hu:Tryz.prog.underlying ts=some (.slice t)) (hinfo:(Tryz.prog.info? t).map (fun i=>(i.zero,i.size,i.bytes))=some (some z,Cel.k α,bytes)) (hz:z.cells.size=Cel.k α) (hk:0<Cel.k α) (hby:bytes<=1000)
 (h:DL t w W C cap A l a c xs) (x:α) (cs:Array Value) (hcs:cs.toList=Cel.cs x) (hx:xs.length<=1000000):
 ∃a2 c2 W2,(Builtin.append_ #[ts,ts] ts #[.slice a xs.length c,.slice (some ⟨W.heap.size,0,none⟩) 1 1]).run Tryz.prog (W.alloc (.cells cs t))= .ok (.slice a2 (xs.length+1) c2) W2/\DL t w W2 C cap A l a2 c2 (xs++ [x]):=by
 have h1:=h.alloc (.cells cs t);have hX:At (W.alloc (.cells cs t)) (some ⟨W.heap.size,0,none⟩) [x]:=by
  refine .inr ⟨_,0,rfl,by simp,fun j u hu=> ?_⟩;rw[Qdi,← hcs]at hu;rw[Nat.zero_add];exact(Blk.new W t cs).cell (by simpa using hu)
 have hs:=h1.size;obtain⟨v',W2,hr,hown,hgrow,hob⟩:=Qbh (P:=Tryz.prog) (α:=α) hu hinfo hz hk hby w.heap.size (.slice a xs.length c) xs [x] (some ⟨W.heap.size,0,none⟩) 1 _ hs h1.own hX (by simp;omega);simp only[List.length_cons,List.length_nil,Nat.zero_add]at hown hr;obtain⟨a2,c2,rfl,_⟩:=Qao hown;have ko:=Qce hgrow;have g:Below w.heap.size (W.alloc (.cells cs t)) W2:=ko.toBelow (fun z hz=>(h.own.lt z hz).1) hs;have hlen:(xs++ [x]).length=xs.length+1:=by simp
 exact⟨a2,c2,W2,hr,Qfr h1.on (Nat.le_refl _) g,h1.dr.under g h.hC,by rw[hlen];exact hown,h.hC⟩
end
theorem belowG_any (C:Nat) (A:Option Addr) (cap:Nat) (l:List By) (n:Int) (h1:1<=n) (h2:n<=1000000000) (w:World) (hD:Drawn w C A cap l):
 Calls Tryz.prog 81 #[.pointer (some ⟨C,0,none⟩),.int .i64 n] w fun e w' =>∃x:Int,e= .returned (.int .i64 x)/\0<=x/\x<n/\Only C w w' /\Drawn w' C A cap l:=by
 by_cases h3:n<=256
 . exact Qbe C A cap l n h1 h3 w hD
 have HD:=hidP hD;clear hD;have hn:¬n<=0:=by omega
 have hz:¬n=0:=by omega
 go_enter Tryz.func81,Tryz.ntmps81;go_wp2_with fail;refine(Qfm C A cap l _ HD.out).mono ?_;rintro e w1 ⟨x,rfl,hx0,hx1,k1,d1⟩;have K1:=hidP k1;have D1:=hidP d1;clear k1 d1 HD;go_wp2_with fail;refine(Qfm C A cap l _ D1.out).mono ?_;rintro e w2 ⟨y,rfl,hy0,hy1,k2,d2⟩;have K2:=hidP (K1.out.trans k2);have D2:=hidP d2;clear k2 d2 D1 K1;go_wp2_with fail;refine(Qfm C A cap l _ D2.out).mono ?_;rintro e w3 ⟨z,rfl,hz0,hz1,k3,d3⟩;have K3:=hidP (K2.out.trans k3);have D3:=hidP d3;clear k3 d3 D2 K2;go_wp2_with fail;refine(Qfm C A cap l _ D3.out).mono ?_;rintro e w4 ⟨v,rfl,hv0,hv1,k4,d4⟩;have K4:=hidP (K3.out.trans k4);have D4:=hidP d4;clear k4 d4 D3 K3;have hm0:0<=(x*16777216+y*65536+z*256+v) % n:=Int.emod_nonneg _ hz;have hm1:(x*16777216+y*65536+z*256+v) % n<n:=Int.emod_lt_of_pos _ (by omega);go_wp2;go_ret;exact⟨_,rfl,hm0,hm1,K4.out,D4.out⟩
end Go.Proofs.YtpippjjhelgnlaaGreat.Gen
namespace Go.Proofs.YtpippjjhelgnlaaGreat.Gen
open ChangeShapes WideShapes ChangeAt RowKit Joins Deep Base
def Src (C B:Nat) (W:World) (a:Option Addr) (L:List UInt8):Prop:=L= []∨∃b o,a=some ⟨b,o,none⟩/\b<B/\b≠C/\b<W.heap.size/\In W b o L
theorem Src.at {C B:Nat} {W:World} {a:Option Addr} {L:List UInt8} (h:Src C B W a L):At W a L:=h.imp id fun⟨b,o,e,_,_,hb,hi⟩=>⟨b,o,e,hb,hi⟩
theorem src_of {C:Nat} {W:World} {a:Option Addr} {L:List UInt8} (h:Sat C W a L):Src C W.heap.size W a L:=by
 rcases h.1 with e|⟨b,o,e,hb,hi⟩
 . exact .inl e
 . rcases h.2 with e2|h2
   . exact .inl e2
   . exact .inr ⟨b,o,e,hb,h2 b o e,hb,hi⟩
theorem Src.under {C B:Nat} {W W' :World} {a:Option Addr} {L:List UInt8} (h:Src C B W a L) (g:Below B W W'):Src C B W' a L:=h.imp id fun⟨b,o,e,hB,hne,hb,hi⟩=>⟨b,o,e,hB,hne,Nat.lt_of_lt_of_le hb g.size,fun j v hv=>(World.cell?_of_block (a:=⟨b,o+j,none⟩) (g.block b hB)).trans (hi j v hv)⟩
theorem Src.only {C B:Nat} {W W' :World} {a:Option Addr} {L:List UInt8} (h:Src C B W a L) (g:Only C W W'):Src C B W' a L:=h.imp id fun⟨b,o,e,hB,hne,hb,hi⟩=>⟨b,o,e,hB,hne,Nat.lt_of_lt_of_le hb g.size,fun j v hv=>(g.cell (p:=⟨b,o+j,none⟩) hb hne).trans (hi j v hv)⟩
structure Dn (w:World) (C cap:Nat) (A:Option Addr) (l:List By) (a a2:Option Addr) (P Q:List UInt8) (B:Nat) (W:World):Prop where
  on:Only C w W
  dr:Drawn W C A cap l
  sp:Src C B W a P
  sq:Src C B W a2 Q
  le:B<=W.heap.size
  hw:w.heap.size<=B
  hC:C<B
section
variable {w:World} {C cap:Nat} {A:Option Addr} {l:List By} {a a2:Option Addr} {P Q:List UInt8} {B:Nat} {W W' :World}
theorem Dn.under (h:Dn w C cap A l a a2 P Q B W) (g:Below B W W'):Dn w C cap A l a a2 P Q B W' :=⟨Qfr h.on h.hw g,h.dr.under g h.hC,h.sp.under g,h.sq.under g,Nat.le_trans h.le g.size,h.hw,h.hC⟩
theorem Dn.alloc (h:Dn w C cap A l a a2 P Q B W) (o:Obj):Dn w C cap A l a a2 P Q B (W.alloc o):=h.under ((Qad (Below.refl _ W) o).mono h.le)
theorem Dn.drew (h:Dn w C cap A l a a2 P Q B W):Dn w C cap A l a a2 P Q B W.drew:=h.under (Below.refl _ W).drew
theorem Dn.only (h:Dn w C cap A l a a2 P Q B W) (g:Only C W W') (d:Drawn W' C A cap l):Dn w C cap A l a a2 P Q B W' :=⟨h.on.trans g,d,h.sp.only g,h.sq.only g,Nat.le_trans h.le g.size,h.hw,h.hC⟩
end
structure Jn (C z:Nat) (W:World):Prop where
  lt:z<W.heap.size
  ne:z≠C
  cells:In W z 0 ([⟨0⟩,⟨1⟩,⟨128⟩,⟨3⟩]:List Nu)
theorem Jn.alloc {C z:Nat} {W:World} (h:Jn C z W) (o:Obj):Jn C z (W.alloc o):=⟨by have:=h.lt;simp;omega,h.ne,h.cells.below h.lt (Qad (Below.refl _ _) o)⟩
theorem Jn.grown {C z:Nat} {W W' :World} {row:Option Nat} (h:Jn C z W) (g:W.grownBy W' row) (hne:some z≠row):Jn C z W' :=⟨Nat.lt_of_lt_of_le h.lt g.size,h.ne,fun j v hv=>g.cell (h.cells j v hv) hne⟩
theorem Jn.new {w:World} {C cap:Nat} {A:Option Addr} {l:List By} {a a2:Option Addr} {P Q:List UInt8} {B:Nat} {W:World} {z:Nat} (h:Dn w C cap A l a a2 P Q B W) (hz:z=W.heap.size):Jn C z (W.alloc (.cells (Qal 0 1 128 3) 3)):=by
 subst hz;exact⟨by simp,by have:=h.hC;have:=h.le;omega,newIn W ([⟨0⟩,⟨1⟩,⟨128⟩,⟨3⟩]:List Nu) (Qal 0 1 128 3) 3 rfl⟩
theorem Qgu {B g:Nat} {W:World} (h:B<=W.heap.size) (hg:g=W.heap.size):(W.alloc (.cells #[] 5)).ownsRow B 5 1 (.slice (some ⟨g,0,none⟩) ([]:List UInt8).length 0) ([]:List UInt8).length (flat ([]:List UInt8)):=by
 subst hg;exact⟨by simp[flat],.inr ⟨W.heap.size,0,#[],rfl,h,Blk.new W 5 #[],by simp,by simp[maxLen],rfl,rfl⟩⟩
theorem own_one {W:World} {z:Int} (h0:0<=z) (h1:z<=255):(W.alloc (.cells #[.int .u8 z] 5)).ownsRow W.heap.size 5 1 (.slice (some ⟨W.heap.size,0,none⟩) [u8 z].length 1) [u8 z].length (flat [u8 z]):=by
 have e:flat [u8 z]= [.int .u8 z]:=by
  show [Value.int .u8 ((u8 z).toNat:Int)]=_;rw[Qh2 h0 h1]
 rw[e];exact⟨by simp,.inr ⟨W.heap.size,1,#[.int .u8 z],rfl,Nat.le_refl _,Blk.new W 5 _,by simp,by simp[maxLen],rfl,rfl⟩⟩
theorem Qkq {B n:Nat} {W W' :World} {v:Value} {t:TypeId} {k m:Nat} {xs:List Value} (h:W.ownsRow B t k v m xs) (g:Below n W W') (hn:∀x,v.ownBlock=some x->x<n):W'.ownsRow B t k v m xs:=by
 refine⟨h.1,?_⟩;rcases h.2 with hz|⟨b,c',cur,e,hB,hblk,hr⟩
 . exact .inl hz
 . subst e;exact .inr ⟨b,c',cur,rfl,hB,(g.block b (hn b rfl)).trans hblk,hr⟩
theorem lt_of_new {B:Nat} {W:World} {v:Value} {t:TypeId} {k m:Nat} {xs:List Value} (h:W.ownsRow B t k v m xs) (x:Nat) (hx:v.ownBlock=some x):x<W.heap.size:=Qci h hx
theorem Qho {z:Int} (h0:0<=z) (h1:z<=255):IntKind.u8.wrap z=z:=by
 simp[IntKind.wrap,IntKind.signed,IntKind.bits];omega
theorem four_byte {y:Nu} (h:y∈([⟨0⟩,⟨1⟩,⟨128⟩,⟨3⟩]:List Nu)):0<=y.n/\y.n<=255:=by
 simp only[List.mem_cons,List.not_mem_nil,or_false]at h;rcases h with rfl|rfl|rfl|rfl<;>exact⟨by decide,by decide⟩
theorem cut_behind {C:Nat} {W0:World} (a:Option Addr) (c:Nat) (L:List UInt8) (m:Nat) (hm:m<=L.length) (h1:L.length<=c) (h2:c<=9223372036854775807) (hS:Sat C W0 a L):
 ∃a2,(∀W:World,(Instr.slice 22 (.slice a L.length c) (some (.int .i64 (m:Int))) none none).run Tryz.prog W= .ok (.slice a2 (L.drop m).length (c - m)) W)/\Sat C W0 a2 (L.drop m):=by
 obtain⟨i0,hi,hz0,hz1,hz2⟩:=info_parts Qk1;have hsz:∀W:World,(sizeOf 5).run Tryz.prog W= .ok 1 W:=fun W=>by simp[sizeOf,typeInfo,hi,hz1]
 rcases src_of hS with rfl|⟨b,o,rfl,hB,hne,hb,hin⟩
 . simp only[List.length_nil,Nat.le_zero]at hm;subst hm;refine⟨a,fun W=> ?_,.inl (by simp),.inl (by simp)⟩;cases a with
   |none=>simp[Instr.slice,run_underlying Tryz.underlying22,Instr.sliceBounds,Instr.sliceBound,asIntOf,hsz]
   |some a=>
    simp[Instr.slice,run_underlying Tryz.underlying22,Instr.sliceBounds,Instr.sliceBound,asIntOf,hsz];intro _;rfl
 . by_cases h:c=m
   . have hmL:m=L.length:=(by omega);refine⟨some ⟨b,o,none⟩,fun W=> ?_,.inl (by simp;omega),.inl (by simp;omega)⟩;simp[Instr.slice,run_underlying Tryz.underlying22,Instr.sliceBounds,Instr.sliceBound,asIntOf,hsz,h,hm,h1]
     try omega
   . refine⟨some ⟨b,o+m,none⟩,fun W=> ?_,.inr ⟨b,o+m,rfl,hb,?_⟩,.inr fun b' o' e=>by cases e;exact hne⟩
     . simp[Instr.slice,run_underlying Tryz.underlying22,Instr.sliceBounds,Instr.sliceBound,asIntOf,hsz,h,hm,h1]
       try rw[Addr.add_mid]
     . intro j v hv;rw[Qd0]at hv;have:=hin (m+j) v (by
        rw[Qd0,List.getElem?_map];rw[List.getElem?_map,List.getElem?_drop]at hv;exact hv)
       rwa [← Nat.add_assoc]at this
theorem dent_any (C:Nat) (A:Option Addr) (cap:Nat) (l:List By) (a:Option Addr) (c:Nat) (L:List UInt8) (hL:L.length<=500000) (h1:L.length<=c) (h2:c<=9223372036854775807) (w:World) (hD:Drawn w C A cap l) (hS:Sat C w a L):
 Calls Tryz.prog 55 #[.pointer (some ⟨C,0,none⟩),.slice a L.length c] w fun e w' =>∃(L' :List UInt8) (a' :Option Addr) (c' :Nat),e= .returned (.slice a' L'.length c')/\L'.length<=L.length+1/\L'.length<=c' /\c' <=9223372036854775807/\Sat C w' a' L' /\Only C w w' /\Drawn w' C A cap l:=by
 have hC:=hD.lt;have HD:=hidP hD;have HS:=hidP hS;clear hD hS;go_enter Tryz.func55,Tryz.ntmps55;go_wp2_with fail;refine(belowG_any C A cap l ((L.length:Int)+1) (by omega) (by omega) _ HD.out).mono ?_;rintro e w1 ⟨m,rfl,hm0,hm1,o1,d1⟩;obtain⟨m,rfl⟩:∃n:Nat,m=(n:Int):=⟨m.toNat,by omega⟩
 have hle:m<=L.length:=by omega
 have HS1:=hidP (HS.out.only o1);have HO1:=hidP o1;have HD1:=hidP d1;clear o1 d1 HS HD;go_wp2_with fail;refine(Qbe C A cap l 5 (by omega) (by omega) _ HD1.out).mono ?_;rintro e w2 ⟨q,rfl,hq0,hq1,o2,d2⟩;have HS2:=hidP (HS1.out.only o2);have HO2:=hidP (HO1.out.trans o2);have HD2:=hidP d2;have s2:=HO2.out.size;clear o2 d2 HS1 HO1 HD1;have hcut:∀W:World,(Instr.slice 22 (.slice a L.length c) none (some (.int .i64 (m:Int))) none).run Tryz.prog W= .ok (.slice a (L.take m).length c) W:=fun W=>by
  have e:(L.take m).length=m:=by rw[List.length_take];omega
  rw[e];exact cut_to a L.length c m (by omega) h2 W
 by_cases e0:q=0
 . subst e0;have HT:=hidP (sat_take HS2.out m);have hlm:(L.take m).length<=L.length+1:=(by rw[List.length_take];omega);have hlc:(L.take m).length<=c:=(by rw[List.length_take];omega);generalize L.take m=P at*;go_wp2;go_ret;exact⟨P,a,c,rfl,hlm,hlc,h2,HT.out,HO2.out,HD2.out⟩
 by_cases e1:q=1
 . subst e1;obtain⟨a2,hcut2,hS2⟩:=cut_behind a c L m hle h1 h2 HS2.out;have I:Dn w C cap A l a a2 (L.take m) (L.drop m) w2.heap.size w2.drew:=Dn.drew ⟨HO2.out,HD2.out,src_of (sat_take HS2.out m),src_of hS2,Nat.le_refl _,s2,by omega⟩;have hPQ:(L.take m).length+(L.drop m).length=L.length:=(by rw[List.length_take,List.length_drop];omega);have hCB:C<w2.heap.size:=(by omega);clear HO2 HD2 HS2 hS2;generalize L.take m=P at*;generalize L.drop m=Q at*;go_wp2_with fail;refine wp_region_noPanic ?_;refine wp_region_held_drew (S:=(fun _=>True)) (by kernel_rfl) ?_ (fun hH=> ?_)
   . exact trivial
   refine ztk [1,2,3,5,10,11,12] ?_;repeat(refine ztn (h:= ?_);try simp only[zX,zY])
   refine zte ?_;refine zR2 0 6 (fun K hK=> ?_) (fun K hK=> ?_)
   focus
    simp only[zG];go_simp;have O:=hidP (Qgu (g:=w2.heap.size) I.le (by first|rfl|simp));have I:=I.alloc (.cells #[] 5);refine hK.out _ _ trivial fun hH=> ?_;clear hK K;try simp only[zX,zY]
    refine zR2 4 6 (fun K hK=> ?_) (fun K hK=> ?_)
    focus
     simp only[zG];obtain⟨x4,c4,W4,hr4,own4,g4⟩:=Qcn (xs:= []) (c' :=c) I.le O.out I.sp.at (by simp;omega);rw[List.nil_append]at hr4 own4;rw[if_pos (by rfl)];refine Qag _ _ _ (by rfl) _ _ _ (by rfl) (by rfl) hr4 ?_;have I:=I.under (Qdr O.out I.le g4);have O:=hidP own4;clear hr4 own4 g4;refine hK.out _ _ trivial fun hH=> ?_;clear hK K;try simp only[zX,zY]
     refine zR1 6 (fun K hK=> ?_);simp only[zG];go_simp;have J:=Jn.new (z:=W4.heap.size) I (by first|rfl|simp);have O:=hidP (Qaw O.out (.cells (Qal 0 1 128 3) 3));have I:=I.alloc (.cells (Qal 0 1 128 3) 3)
    rotate_left
    focus
     simp only[zG];go_simp;have J:=Jn.new (z:=w2.heap.size+1) I (by first|rfl|simp);have O:=hidP (Qaw O.out (.cells (Qal 0 1 128 3) 3));have I:=I.alloc (.cells (Qal 0 1 128 3) 3);refine hK.out _ _ trivial fun hH=> ?_;clear hK K;try simp only[zX,zY]
     refine zR1 4 (fun K hK=> ?_);simp only[zG];obtain⟨x4,c4,W4,hr4,own4,g4⟩:=Qcn (xs:= []) (c' :=c) I.le O.out I.sp.at (by simp;omega);rw[List.nil_append]at hr4 own4;rw[if_pos (by rfl)];refine Qag _ _ _ (by rfl) _ _ _ (by rfl) (by rfl) hr4 ?_;have J:=J.grown g4 (by first|(simp[Value.ownBlock];done)|(simp[Value.ownBlock];omega));have I:=I.under (Qdr O.out I.le g4);have O:=hidP own4;clear hr4 own4 g4
   rotate_left 2
   focus
    simp only[zG];go_simp;have J:=Jn.new (z:=w2.heap.size) I (by first|rfl|simp);have I:=I.alloc (.cells (Qal 0 1 128 3) 3);refine hK.out _ _ trivial fun hH=> ?_;clear hK K;try simp only[zX,zY]
    refine zR1 0 (fun K hK=> ?_);simp only[zG];go_simp;have O:=hidP (Qgu (g:=w2.heap.size+1) I.le (by first|rfl|simp));have J:=J.alloc (.cells #[] 5);have I:=I.alloc (.cells #[] 5);refine hK.out _ _ trivial fun hH=> ?_;clear hK K;try simp only[zX,zY]
    refine zR1 4 (fun K hK=> ?_);simp only[zG];obtain⟨x4,c4,W4,hr4,own4,g4⟩:=Qcn (xs:= []) (c' :=c) I.le O.out I.sp.at (by simp;omega);rw[List.nil_append]at hr4 own4;rw[if_pos (by rfl)];refine Qag _ _ _ (by rfl) _ _ _ (by rfl) (by rfl) hr4 ?_;have J:=J.grown g4 (by first|(simp[Value.ownBlock];done)|(simp[Value.ownBlock];omega));have I:=I.under (Qdr O.out I.le g4);have O:=hidP own4;clear hr4 own4 g4
   all_goals
    refine hK.out _ _ trivial fun hH=> ?_;clear hK K;try simp only[zX,zY]
    refine zR1 7 (fun K hK=> ?_);simp only[zG];go_simp;refine(Qdq C A cap l _ 0 4 ([⟨0⟩,⟨1⟩,⟨128⟩,⟨3⟩]:List Nu) (by simp) (by simp) _ I.dr J.lt J.ne J.cells).mono ?_;rintro e w7 ⟨y,hy,rfl,o7,d7⟩;obtain⟨hy0,hy1⟩:=four_byte hy;have O:=hidP (Qfq O.out o7 hCB);have I:=I.only o7 d7;clear hy o7 d7 J;generalize y.n=z at*;have hz8:IntKind.u8.wrap z=z:=Qho hy0 hy1;have O7:=O;have I7:=I;refine hK.out _ _ trivial fun hH=> ?_;clear hK K;try simp only[zX,zY]
    refine zt1 8 ?_;refine ztn (h:= ?_);try simp only[zX,zY]
    refine zte ?_;refine zR1 9 (fun K hK=> ?_);simp only[zG];go_simp;have O9:=hidP (own_one (W:=w7) hy0 hy1);have O:=hidP (Qaw O.out (.cells #[.int .u8 z] 5));have I:=I.alloc (.cells #[.int .u8 z] 5);refine hK.out _ _ trivial fun hH=> ?_;clear hK K;try simp only[zX,zY]
    refine zR1 13 (fun K hK=> ?_);simp only[zG];obtain⟨x13,c13,W13,hr13,own13,g13⟩:=Qcn (c' :=c - m) (show w7.heap.size<=(w7.alloc (.cells #[.int .u8 z] 5)).heap.size by simp) O9.out I.sq.at (by simp;omega);obtain⟨Q9,hQ9⟩:∃Q9,Q9= [u8 z]++Q:=⟨_,rfl⟩;rw[← hQ9]at hr13 own13;have hlQ:=hidP (show Q9.length=Q.length+1 by rw[hQ9];simp);clear hQ9;rw[if_pos (by rfl)];refine Qag _ _ _ (by rfl) _ _ _ (by rfl) (by rfl) hr13 ?_;have u13:=Qdr O9.out (show w7.heap.size<=(w7.alloc (.cells #[.int .u8 z] 5)).heap.size by simp) g13;have O:=hidP (Qkq O.out u13 (fun x h=>lt_of_new O7.out x h));have I:=I.under (u13.mono I7.le);have O13:=hidP own13;clear hr13 own13 g13 u13 O9;refine hK.out _ _ trivial fun hH=> ?_;clear hK K;try simp only[zX,zY]
    refine zR1 14 (fun K hK=> ?_);simp only[zG];obtain⟨x14,c14,W14,hr14,own14,g14⟩:=Qcn (c' :=c13) I.le O.out (Qa0 O13.out).at (by have:=hlQ.out;omega);obtain⟨Z,hZ⟩:∃Z,Z=P++Q9:=⟨_,rfl⟩;rw[← hZ]at hr14 own14;have hlen:=hidP (show Z.length<=L.length+1 by rw[hZ,List.length_append];have:=hlQ.out;omega);clear hZ;rw[if_pos (by rfl)];refine Qag _ _ _ (by rfl) _ _ _ (by rfl) (by rfl) hr14 ?_;have I:=I.under (Qdr O.out I.le g14);have O:=hidP own14;clear hr14 own14 g14 O13;refine hK.out _ _ trivial fun hH=> ?_;clear hK K;try simp only[zX,zY]
    refine zt1 15 ?_;refine ztn (h:= ?_);try simp only[zX,zY]
    refine zte ?_;refine zdn ?_;obtain⟨hc1,hc2⟩:=Qgt O.out;have hsat:=hidP (Qhr (C:=C) O.out hCB);have HI1:=hidP I.on;have HI2:=hidP I.dr;clear O I O7 I7;go_wp2;go_ret;exact⟨Z,_,_,rfl,hlen.out,hc1,hc2,hsat.out,HI1.out,HI2.out⟩
 go_wp2;go_ret;exact⟨L,a,c,rfl,by omega,h1,h2,HS2.out,HO2.out,HD2.out⟩
end Go.Proofs.YtpippjjhelgnlaaGreat.Gen
