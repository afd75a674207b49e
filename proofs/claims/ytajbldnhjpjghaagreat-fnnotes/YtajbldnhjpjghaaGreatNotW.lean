/-
  FnNotes: at every code a drawn record is read from its bytes as it was; cut short it is none; with one bit of its body or sum turned it is none. No condition.
-/
import Derived.Test.YtajbldnhjpjghaaGreatNSO
set_option linter.unusedVariables false
set_option linter.unusedSimpArgs false
set_option maxRecDepth 100000
set_option maxHeartbeats 8000000
set_option maxRecDepth 100000
set_option maxHeartbeats 8000000
namespace Go.Proofs.YtajbldnhjpjghaaGreat.NotX
open ChangeShapes WideShapes ChangeAt RowKit Joins Deep Base Gen
theorem own:ownKnob Tryz.prog.godebug=none:=by kernel_rfl
theorem Qoj:laidOutB Tryz.prog=true:=by kernel_rfl
theorem Ql6 (A:Option Addr) (n cap:Nat) (hn:n<=9223372036854775807) (w:World):
 Calls Tryz.prog 4 #[.slice A n cap] w fun e w' =>e= .returned (.bool (decide ((1048576:Int)<(n:Int))))/\w' =w:=by
 go_enter Tryz.func4,Tryz.ntmps4;go_wp2;go_ret;exact⟨rfl,rfl⟩
theorem Ql7 (A:Option Addr) (cap:Nat) (l:List By) (hl:l.length<=1048576) (hby:∀x∈l,x.right) (i:Nat) (hi9:i<=20) (z:Int) (hz:z=(i:Int)) (w:World) (hA:At w A l):
 Calls Tryz.prog 17 (l1SI A l.length cap z) w fun e w' =>∃y:Int,e= .returned (.int .i64 y)/\0<=y/\y<=255/\w' =w:=by
 subst hz;by_cases h:i<l.length
 . obtain⟨b,o,rfl,hb,hin⟩:∃b o,A=some ⟨b,o,none⟩/\b<w.heap.size/\In w b o l:=hA.resolve_left (fun e=>by rw[e]at h;simp at h);have cx:=hin.getBy i h;obtain⟨h0,h1⟩:=hby l[i] (List.getElem_mem h);have hi:(i:Int)<(l.length:Int):=(by omega);have hi0:(0:Int)<=(i:Int):=(by omega);generalize l[i].n=y at*;go_enter Tryz.func17,Tryz.ntmps17;go_wp2;go_ret;exact⟨y,rfl,h0,h1,rfl⟩
 . have hi:¬(i:Int)<(l.length:Int):=(by omega);have hm:(0:Int)<=((i:Int) *7+(l.length:Int)) % 256/\((i:Int) *7+(l.length:Int)) % 256<=255:=(by omega);have hn:((i:Int) *7+(l.length:Int)).tmod 256=((i:Int) *7+(l.length:Int)) % 256:=(by rw[Int.tmod_eq_emod_of_nonneg (by omega)]);clear hA hby;go_enter Tryz.func17,Tryz.ntmps17;go_wp2;go_ret;exact⟨_,rfl,by omega,by omega,rfl⟩
theorem Qts {x:En} (h:EnR x):x.fit:=⟨by have:=h.cm.k0;omega,by have:=h.cm.t0;omega⟩
theorem Qi4:(Tryz.prog.info? 26).map (·.size)=some 6:=by kernel_rfl
theorem Qpl (k t v p:Int) (L:List En) (s:ByteArray):(Qdc k t v p L s=true/\0<(Qcg k t v p L s).length/\Qcg k t v p L s=Qbk (Qb5 k t v p L s))∨(Qdc k t v p L s=false/\Qcg k t v p L s= []):=by
 unfold Qcg;cases h:Qdc k t v p L s with
 |true=>
  left
  refine⟨rfl,?_,by simp⟩;simp only[if_pos];unfold Qbk;simp only[List.length_append,Qbd];omega
 |false=>right;exact⟨rfl,by simp⟩
def nxO (r:Option (Nt × Nat)):Int:=match r with|some (_,c)=>(c:Int)|none=>0
theorem rem8 (y:Int) (h0:0<=y) (h1:y<=255):∃s:Nat,s<8/\y.tmod 8=(s:Int):=⟨(y % 8).toNat,by omega,by rw[Int.tmod_eq_emod_of_nonneg h0];omega⟩
theorem Qqv:∀b:Fin 256,∀s:Fin 8,0<=bits .xor .u8 (b.val:Int) (IntKind.u8.wrap (2 ^ s.val))/\bits .xor .u8 (b.val:Int) (IntKind.u8.wrap (2 ^ s.val))<=255/\bits .xor .u8 (b.val:Int) (IntKind.u8.wrap (2 ^ s.val))≠(b.val:Int):=by decide+kernel
theorem Quc (b:UInt8) (s:Nat) (hs:s<8):∃y:UInt8,y≠b/\bits .xor .u8 (b.toNat:Int) (IntKind.u8.wrap (2 ^ s))=(y.toNat:Int):=by
 obtain⟨h0,h1,h2⟩:=Qqv ⟨b.toNat,b.toNat_lt⟩ ⟨s,hs⟩;simp only at h0 h1 h2;refine⟨u8 (bits .xor .u8 (b.toNat:Int) (IntKind.u8.wrap (2 ^ s))),fun e=>h2 ?_,(Qeq h0 h1).symm⟩;rw[← Qeq h0 h1,e]
def zNt:Nt:=⟨0,0,0,0,[],⟨#[]⟩⟩
theorem Qgd (A:Option Addr) (cap:Nat) (l:List UInt8) (hl:l.length<=1048576) (hcap:l.length<=cap) (hcm:cap<=9223372036854775807) (i:Int) (hi:I64 i) (w:World) (hA:At w A l):
 Calls Tryz.prog 15 (l1SI A l.length cap i) w fun e w' =>Below w.heap.size w w' /\∃(q:Nt) (qa:Option Addr) (qc:Nat),e= .returned (.tuple #[.agg (Qag q.kind q.term q.vote q.prev qa (List.length q.l) qc q.snap),.int .i64 (nxO (ofN l i)),.bool (ofN l i).isSome])/\((ofN l i).isSome=true->∃c,ofN l i=some (q,c)/\At w' qa q.l):=
 (Qhm A cap l hl hcap hcm i hi w hA).mono fun e w' ⟨g,h⟩=>⟨g,by
  rcases h with⟨x,c,aa,cc,h1,h2,rfl⟩|⟨h1,rfl⟩
  . rw[h1];exact⟨x,aa,cc,rfl,fun _=>⟨c,rfl,(Qay h2).at⟩⟩
  . rw[h1];exact⟨zNt,none,0,rfl,fun h=>by cases h⟩⟩
theorem Qpy (A:Option Addr) (cap:Nat) (l:List UInt8) (hl:l.length<=1048576) (hcap:l.length<=cap) (hcm:cap<=9223372036854775807) (i:Int) (hi:I64 i) (w:World) (hA:At w A l):
 Calls Tryz.prog 16 (l1SI A l.length cap i) w fun e w' =>Below w.heap.size w w' /\∃(q:Nt) (qa:Option Addr) (qc:Nat),e= .returned (.tuple #[.agg (Qag q.kind q.term q.vote q.prev qa (List.length q.l) qc q.snap),.int .i64 (nxO (ofN l i)),.bool (ofN l i).isSome])/\((ofN l i).isSome=true->∃c,ofN l i=some (q,c)/\At w' qa q.l):=
 (Qhg A cap l hl hcap hcm i hi w hA).mono fun e w' ⟨g,h⟩=>⟨g,by
  rcases h with⟨x,c,aa,cc,h1,h2,rfl⟩|⟨h1,rfl⟩
  . rw[h1];exact⟨x,aa,cc,rfl,fun _=>⟨c,rfl,(Qay h2).at⟩⟩
  . rw[h1];exact⟨zNt,none,0,rfl,fun h=>by cases h⟩⟩
def ntB (x:Nt):List UInt8:=Qcg x.kind x.term x.vote x.prev x.l x.snap
theorem Qnu {R:List UInt8} {i:Int} {x:Nt} {c:Nat} (h:ofN R i=some (x,c)):∃j:Nat,i=(j:Int)/\j<=c/\c<=R.length/\x.ok=true/\ntB x=(R.drop j).take (c - j):=by
 obtain⟨j,rfl⟩:∃j:Nat,i=(j:Int):=by
  by_cases hi:i<0
  . exfalso;unfold ofN Qd1 getT at h;rw[Qly hi]at h;simp at h
  . exact⟨i.toNat,by omega⟩
 obtain⟨h1,h2,h3,h4⟩:=Bk.ofN_inv h;refine⟨j,rfl,h1,h2,h3,?_⟩;rw[← h4];unfold ntB Qcg;exact if_pos h3
theorem Qq0 (a:Option Addr) (c:Nat) (L:List UInt8) (j m:Nat) (h:j+m<=L.length) (h1:L.length<=c) (h2:c<=9223372036854775807) (W0:World) (hA0:At W0 a L):
 ∃v,(∀W:World,(Instr.slice 22 (.slice a L.length c) (some (.int .i64 (j:Int))) (some (.int .i64 ((j:Int)+(m:Int)))) none).run Tryz.prog W= .ok v W)/\
  ∀W:World,At W a L->(convert 22 9 v).run Tryz.prog W= .ok (.string ⟨((L.drop j).take m).toArray⟩) W:=by
 by_cases hL:L= []
 . subst hL;simp only[List.length_nil,Nat.le_zero,Nat.add_eq_zero_iff]at h;obtain⟨rfl,rfl⟩:=h;refine⟨.slice a 0 c,fun W=> ?_,fun W hA=>Qgg a c [] W (.inl rfl)⟩;obtain⟨i0,hi,hz0,hz1,hz2⟩:=info_parts Qj1;have hsz:∀W:World,(sizeOf 5).run Tryz.prog W= .ok 1 W:=fun W=>by simp[sizeOf,typeInfo,hi,hz1]
   cases a with
   |none=>simp[Instr.slice,run_underlying Tryz.underlying22,Instr.sliceBounds,Instr.sliceBound,asIntOf,hsz]
   |some a=>
    simp[Instr.slice,run_underlying Tryz.underlying22,Instr.sliceBounds,Instr.sliceBound,asIntOf,hsz];intro _;rfl
 . obtain⟨b,o,rfl,_,_⟩:=hA0.resolve_left hL;obtain⟨a',hs,hv⟩:=Qla (b:=b) (o:=o) h h1 h2;refine⟨_,hs,fun W hA=> ?_⟩;obtain⟨b',o',e,_,hi⟩:=hA.resolve_left hL;cases e;exact hv W hi
theorem Qm0 (B:List UInt8) (hl:B.length<=2147483647):getN (Qbk B) 0=some (B.length,(numB B.length).length):=by
 have h1:=Bk.getN_at (n:=(B.length:Int)) (p:= []) (r:=B++sumB 4 (sumN B)) (l:=Qbk B) (by unfold Qbk;rw[Qb7 hl];simp) (by omega) (by omega);rw[Int.toNat_natCast,Qb7 hl]at h1;simp only[List.length_nil,List.nil_append]at h1;simpa using h1
theorem Qmz (x:Nt) (hx:x.ok=true) (F:List UInt8) (hF:F=Qbk (Qb5 x.kind x.term x.vote x.prev x.l x.snap)) (hl:F.length<=200000) (r:List UInt8):ofN (F++r) 0=some (x,F.length):=by
 have hb:(Qb5 x.kind x.term x.vote x.prev x.l x.snap).length<=2147483647:=by
  have:(Qb5 x.kind x.term x.vote x.prev x.l x.snap).length<=F.length:=by rw[hF];unfold Qbk;simp only[List.length_append];omega
  omega
 have h4:=Bk.ofN_at (l:=F++r) (p:= []) (r:=r) hx hb (by rw[hF];simp);rw[← hF]at h4;simpa using h4
theorem Qsd (B:List UInt8):(numB B.length).length+4<=(Qbk B).length:=by
 unfold Qbk;simp only[List.length_append,Qbd];omega
theorem Qtr (y:Int) (n:Nat) (h0:0<=y) (h1:y<=255) (hn:0<n) (hu:n<=41000):∃m:Nat,m<n/\(y* (n:Int)).tdiv 256=(m:Int)/\0<=y* (n:Int)/\y* (n:Int)<=40000000:=by
 have a:0<=y* (n:Int):=Int.mul_nonneg h0 (by omega);have b:y* (n:Int)<=255* (n:Int):=Int.mul_le_mul_of_nonneg_right h1 (by omega);refine⟨((y* (n:Int)) / 256).toNat,by omega,?_,a,by omega⟩;rw[Int.tdiv_eq_ediv_of_nonneg a];omega
theorem Qp5 (y:Int) (h n:Nat) (h0:0<=y) (h1:y<=255) (hn:h<n) (hu:n<=41000):∃m:Nat,h<=m/\m<n/\∃d:Int,(y* ((n:Int) - (h:Int))).tdiv 256=d/\(h:Int)+d=(m:Int)/\0<=d/\d<=41000/\0<=y* ((n:Int) - (h:Int))/\y* ((n:Int) - (h:Int))<=40000000:=by
 have a:0<=y* ((n:Int) - (h:Int)):=Int.mul_nonneg h0 (by omega);have b:y* ((n:Int) - (h:Int))<=255* ((n:Int) - (h:Int)):=Int.mul_le_mul_of_nonneg_right h1 (by omega);have c:=Int.tdiv_eq_ediv_of_nonneg (b:=256) a;exact⟨(h+(y* ((n:Int) - (h:Int))) / 256).toNat,by omega,by omega,_,rfl,by omega,by omega,by omega,a,by omega⟩
theorem Qr9 (A:Option Addr) (cap:Nat) (l:List By) (hl:l.length<=9223372036854775807) (hby:∀x∈l,x.right) (w:World) (hA:At w A l):
 Calls Tryz.prog 3 #[.slice A l.length cap] w fun e w' =>e= .returned (.bool true)/\Below w.heap.size w w' :=by
 have HA:=hidP hA;have Hby:=hidP hby;clear hA hby;by_cases hbig:(1048576:Int)<(l.length:Int)
 . have hd:decide ((1048576:Int)<(l.length:Int))=true:=decide_eq_true hbig;go_enter Tryz.func3,Tryz.ntmps3;go_wp2_with (go_at_call 4;refine(Ql6 A l.length cap hl _).mono ?_;rw[hd];rintro e w1 ⟨rfl,rfl⟩);go_ret;exact⟨rfl,Below.refl _ _⟩
 have hd:decide ((1048576:Int)<(l.length:Int))=false:=decide_eq_false hbig;have hl1:l.length<=1048576:=by omega
 go_enter Tryz.func3,Tryz.ntmps3;go_wp2_with fail;refine(Ql6 A l.length cap hl _).mono ?_;rw[hd];rintro e w0 ⟨rfl,rfl⟩;clear hd hbig;go_wp2_with fail;refine(Qm3 A cap l hl1 Hby.out _ HA.out).mono ?_;rintro e w1 ⟨k,t,v,p,a,c,L,s,rfl,hL,hLs,hs,hat,g1⟩;have al:=Qad (Below.refl _ w1) (.cells (Qag k t v p a (List.length L) c s) 26);have HRA:=hidP (hat.below al);have HR:=hidP (Blk.new w1 26 (Qag k t v p a (List.length L) c s));have HB:=hidP (via0 al g1);replace HA:=hidP (HA.out.below HB.out);have hfit:Hid (∀x∈L,x.fit):=hidP (fun x hx=>by have:=hLs x hx;exact⟨by omega,by omega⟩);clear al hat g1 hLs;go_upto_region 4 with fail;generalize w1.alloc (.cells (Qag k t v p a (List.length L) c s) 26)=W1 at*;generalize w1.heap.size=R at*;have E1:=hidP (Qd4 k t v p s (by omega) a c L (by omega) hfit.out W1 HRA.out);have E2:Hid (∀W:World,Below W1.heap.size W1 W->Calls Tryz.prog 9 #[.agg (Qag k t v p a (List.length L) c s)] W fun e w' =>∃a' c',e= .returned (.slice a' (Qcg k t v p L s).length c')/\Below W.heap.size W w' /\At w' a' (Qcg k t v p L s)):=hidP (fun W g=>(Qc9 k t v p s (by omega) a c L (by omega) hfit.out W (HRA.out.below g)).mono (fun e w' h=>by
  obtain⟨a',c',e1,g1,o1⟩:=h;exact⟨a',c',e1,g1,(Qay o1).at⟩))
 have E3:Hid (∀W:World,Below W1.heap.size W1 W->Calls Tryz.prog 10 #[.agg (Qag k t v p a (List.length L) c s)] W fun e w' =>e= .returned (.bool (Qdc k t v p L s))/\Below W.heap.size W w'):=hidP (fun W g=>Qdf k t v p s (by omega) a c L (by omega) hfit.out W (HRA.out.below g));have hno:=Qid k t v p L s;have hbp:=hidP (Qpl k t v p L s);have hrg:Hid (Qdc k t v p L s=true->NtR k t v p L s):=hidP Qdr;obtain⟨Bs,hBs⟩:∃Bs,Bs=Qcg k t v p L s:=⟨_,rfl⟩
 rw[← hBs]at E1 E2 hno hbp;clear hBs;obtain⟨r0,r1,r2,r3,r4,r5⟩:=HR.out.row6n;have qr:=HR.out.lt;go_wp2_with fail;refine E1.out.mono ?_;rintro e w2 ⟨ab,cb,rfl,g2,o2⟩;have HBA:=hidP ((Qay o2).at);obtain⟨hcb1,hcb2⟩:=Qel o2;replace HR:=hidP (HR.out.below g2 HR.out.lt);have HW:=hidP g2;replace HB:=hidP (via0 g2 HB.out);replace HA:=hidP (HA.out.below g2);clear g2 o2 E1 r0 r1 r2 r3 r4 r5 qr HRA;go_wp2_with fail;refine(Qm2 A cap l hl1 Hby.out _ HA.out).mono ?_;rintro e w3 ⟨k2,t2,v2,p2,a2,c2,L2,s2,rfl,hL2,hLs2,hs2,hat2,g3⟩;have al:=Qad (Below.refl _ w3) (.cells (Qag k2 t2 v2 p2 a2 (List.length L2) c2 s2) 26);have g4:=via0 al g3;have HXA:=hidP (hat2.below al);have HX:=hidP (Blk.new w3 26 (Qag k2 t2 v2 p2 a2 (List.length L2) c2 s2));replace HB:=hidP (via0 g4 HB.out);replace HA:=hidP (HA.out.below g4);replace HR:=hidP (HR.out.below g4 HR.out.lt);replace HBA:=hidP (HBA.out.below g4);replace HW:=hidP (via0 g4 HW.out);have hfit2:Hid (∀x∈L2,x.fit):=hidP (fun x hx=>by have:=hLs2 x hx;exact⟨by omega,by omega⟩);clear al hat2 g3 g4 hLs2;go_upto_region 6 with fail;generalize w3.alloc (.cells (Qag k2 t2 v2 p2 a2 (List.length L2) c2 s2) 26)=W3 at*;generalize w3.heap.size=X at*;have E4:Hid (∀W:World,Below W3.heap.size W3 W->Calls Tryz.prog 10 #[.agg (Qag k2 t2 v2 p2 a2 (List.length L2) c2 s2)] W fun e w' =>e= .returned (.bool (Qdc k2 t2 v2 p2 L2 s2))/\Below W.heap.size W w'):=hidP (fun W g=>Qdf k2 t2 v2 p2 s2 (by omega) a2 c2 L2 (by omega) hfit2.out W (HXA.out.below g));have E5:Hid (∀W:World,Below W3.heap.size W3 W->Calls Tryz.prog 11 #[.agg (Qag k2 t2 v2 p2 a2 (List.length L2) c2 s2)] W fun e w' =>e= .returned (.bool (Qdc k2 t2 v2 p2 L2 s2))/\Below W.heap.size W w'):=hidP (fun W g=>Qdw k2 t2 v2 p2 s2 (by omega) a2 c2 L2 (by omega) hfit2.out W (HXA.out.below g))
 generalize Qdc k2 t2 v2 p2 L2 s2=b2 at E4 E5;go_wp2_with fail;refine(Qk9 A cap l hl1 Hby.out _ HA.out).mono ?_;rintro e w5 ⟨Ls,sa,sc,rfl,hLs,hats,g5⟩;have E6:Hid (∀W:World,Below w5.heap.size w5 W->Calls Tryz.prog 12 #[.slice sa Ls.length sc] W fun e w' =>e= .returned (.int .i64 (sumN Ls:Int))/\Below W.heap.size W w'):=hidP (fun W g=>(Qe6 sa sc Ls (by omega) W (hats.below g)).mono (fun e w' h=>⟨h.1,h.2▸Below.refl _ _⟩));have E7:Hid (∀W:World,Below w5.heap.size w5 W->Calls Tryz.prog 13 #[.slice sa Ls.length sc] W fun e w' =>e= .returned (.int .i64 (sumN Ls:Int))/\Below W.heap.size W w'):=hidP (fun W g=>(Qgo sa sc Ls (by omega) W (hats.below g)).mono (fun e w' h=>⟨h.1,h.2▸Below.refl _ _⟩));generalize (sumN Ls:Int)=sn at E6 E7;have SS:Hid (∀V:World,Below w5.heap.size w5 V->(fun(V:World)=>(convert 22 9 (.slice ab Bs.length cb)).run Tryz.prog V= .ok (.string ⟨Bs.toArray⟩) V/\Blk V R 26 (Qag k t v p a (List.length L) c s)/\Blk V X 26 (Qag k2 t2 v2 p2 a2 (List.length L2) c2 s2)) V):=hidP (fun V g=>⟨Qgg ab cb Bs V ((HBA.out.below g5).below g),(HR.out.below g5 HR.out.lt).below g (by have:=HR.out.lt;have:=g5.size;omega),(HX.out.below g5 HX.out.lt).below g (by have:=HX.out.lt;have:=g5.size;omega)⟩);have HW3:=hidP g5;replace HW:=hidP (via0 g5 HW.out);replace HB:=hidP (via0 g5 HB.out);replace HA:=hidP (HA.out.below g5);replace HBA:=hidP (HBA.out.below g5);clear hats g5 HR HX HXA hfit2;obtain⟨nb,hnb⟩:∃nb,nb=Qdc k t v p L s:=⟨_,rfl⟩
 rw[← hnb]at E3 hbp hrg;have HOK:Hid (nb=true->Qdc k t v p L s=true):=hidP (fun h=>hnb▸h);clear hnb;go_upto_region 7 with fail;refine wp_region_noPanic ?_;refine wp_region_held_drew (S:=(fun(V:World)=>(convert 22 9 (.slice ab Bs.length cb)).run Tryz.prog V= .ok (.string ⟨Bs.toArray⟩) V/\Blk V R 26 (Qag k t v p a (List.length L) c s)/\Blk V X 26 (Qag k2 t2 v2 p2 a2 (List.length L2) c2 s2))) (by kernel_rfl) (SS.out _ (Below.refl _ _).drew) (fun hH=> ?_);have G0:Below w5.heap.size w5 w5.drew:=(Below.refl _ _).drew;generalize w5.drew=Y at G0 hH ⊢;refine ztk [0,1] ?_;repeat(refine ztn (hS:=hH) (h:= ?_);try simp only[zX,zY])
 refine zte ?_;refine zt1 2 ?_;refine ztn (hS:=hH) (hy:=fun w' hSw=>Qa2 rfl rfl hSw.2.1 Tryz.underlying26 Qi4) (h:= ?_);try simp only[zX,zY]
 refine zte ?_;refine zR1 3 (fun K hK=> ?_);simp only[zG];go_simp;refine(E2.out _ (via0 G0 HW.out)).mono ?_;rintro e v1 ⟨a1,k1,rfl,g1,AT1⟩;have G1:=via0 g1 G0;refine hK.out _ _ (SS.out _ G1) (fun hH=> ?_);clear hK K g1
 try simp only[zX,zY]
 refine zR1 4 (fun K hK=> ?_);simp only[zG];have hcv:=Qgg a1 k1 Bs v1 AT1;go_simp;refine hK.out _ _ hH (fun hH=> ?_);clear hK K hcv AT1
 try simp only[zX,zY]
 refine ztk [5,6,7,8,9] ?_;repeat(refine ztn (hS:=hH) (h:= ?_);try simp only[zX,zY])
 refine zte ?_;refine zt1 10 ?_;refine ztn (hS:=hH) (hy:=fun w' hSw=>Qa2 rfl rfl hSw.2.1 Tryz.underlying26 Qi4) (h:= ?_);try simp only[zX,zY]
 refine zte ?_;refine zR1 11 (fun K hK=> ?_);simp only[zG];go_simp;refine(E3.out _ (via0 G1 HW.out)).mono ?_;rintro e v2 ⟨rfl,g2⟩;have G2:=via0 g2 G1;refine hK.out _ _ (SS.out _ G2) (fun hH=> ?_);clear hK K g2
 try simp only[zX,zY]
 have hbn2:(decide (0<Bs.length)==nb)=true:=by
  rcases hbp.out with⟨h1,h2,_⟩|⟨h1,h2⟩
  . rw[h1,decide_eq_true h2];rfl
  . rw[h1,h2];rfl
 refine ztk [12,13,14] ?_;repeat(refine ztn (hS:=hH) (h:= ?_);try simp only[zX,zY])
 refine zte ?_;refine zt1 15 ?_;refine ztn (hS:=hH) (hy:=fun w' hSw=>Qa2 rfl rfl hSw.2.2 Tryz.underlying26 Qi4) (h:= ?_);try simp only[zX,zY]
 refine zte ?_;refine zt1 17 ?_;refine ztn (hS:=hH) (hy:=fun w' hSw=>Qa2 rfl rfl hSw.2.2 Tryz.underlying26 Qi4) (h:= ?_);try simp only[zX,zY]
 refine zte ?_;refine zR1 16 (fun K hK=> ?_);simp only[zG];go_simp;refine(E4.out _ (via0 G2 HW3.out)).mono ?_;rintro e v3 ⟨rfl,g3⟩;have G3:=via0 g3 G2;refine hK.out _ _ (SS.out _ G3) (fun hH=> ?_);clear hK K g3
 try simp only[zX,zY]
 refine zR1 18 (fun K hK=> ?_);simp only[zG];go_simp;refine(E5.out _ (via0 G3 HW3.out)).mono ?_;rintro e v4 ⟨rfl,g4⟩;have G4:=via0 g4 G3;refine hK.out _ _ (SS.out _ G4) (fun hH=> ?_);clear hK K g4
 try simp only[zX,zY]
 have hbb:(b2 !=b2)=false:=by simp
 refine ztk [19,20,21,22,24] ?_;repeat(refine ztn (hS:=hH) (h:= ?_);try simp only[zX,zY])
 refine zte ?_;refine zR1 23 (fun K hK=> ?_);simp only[zG];go_simp;refine(E6.out _ G4).mono ?_;rintro e v5 ⟨rfl,g5⟩;have G5:=via0 g5 G4;refine hK.out _ _ (SS.out _ G5) (fun hH=> ?_);clear hK K g5
 try simp only[zX,zY]
 refine zR1 25 (fun K hK=> ?_);simp only[zG];go_simp;refine(E7.out _ G5).mono ?_;rintro e v6 ⟨rfl,g6⟩;have G6:=via0 g6 G5;refine hK.out _ _ (SS.out _ G6) (fun hH=> ?_);clear hK K g6
 try simp only[zX,zY]
 refine ztk [26,27] ?_;repeat(refine ztn (hS:=hH) (h:= ?_);try simp only[zX,zY])
 refine zte ?_;refine zdn ?_;replace HB:=hidP (via0 G6 HB.out);replace HA:=hidP (HA.out.below G6);replace HBA:=hidP (HBA.out.below G6);clear G0 G1 G2 G3 G4 G5 G6 hH SS E2 E3 E4 E5 E6 E7 HW HW3 hbn2 hbb hL2 hs2 hLs;go_wp2_with fail;refine(Qhp A cap l hl1 Hby.out _ HA.out).mono ?_;rintro e u1 ⟨Rw,aR,cR,i,rfl,hR1,hR2,hR3,hatR,hi64,g1⟩;have HG:=hidP (Qgd aR cR Rw (by omega) hR2 hR3 i hi64);have HGs:=hidP (Qpy aR cR Rw (by omega) hR2 hR3 i hi64);have HI:Hid (∀x c,ofN Rw i=some (x,c)->∃j:Nat,i=(j:Int)/\j<=c/\c<=Rw.length/\x.ok=true/\ntB x=(Rw.drop j).take (c - j)):=hidP (fun x c h=>Qnu h);have HX:=hidP hatR;replace HB:=hidP (via0 g1 HB.out);replace HA:=hidP (HA.out.below g1);replace HBA:=hidP (HBA.out.below g1);clear hatR g1;go_wp2_with fail;refine(HG.out _ HX.out).mono ?_;rintro e u2 ⟨g2,q,qa,qc,rfl,hq⟩;have al:=Qad (Below.refl _ u2) (.cells (Qag q.kind q.term q.vote q.prev qa (List.length q.l) qc q.snap) 26);have BQ:=hidP (Blk.new u2 26 (Qag q.kind q.term q.vote q.prev qa (List.length q.l) qc q.snap));replace HX:=hidP ((HX.out.below g2).below al);replace HB:=hidP (via0 al (via0 g2 HB.out));replace HA:=hidP ((HA.out.below g2).below al);replace HBA:=hidP ((HBA.out.below g2).below al);have HQ:Hid ((ofN Rw i).isSome=true->∃c,ofN Rw i=some (q,c)/\At (u2.alloc (.cells (Qag q.kind q.term q.vote q.prev qa (List.length q.l) qc q.snap) 26)) qa q.l):=hidP (fun h=>by obtain⟨c,e,a⟩:=hq h;exact⟨c,e,a.below al⟩);clear g2 hq al HG;go_upto_region 11 with fail;generalize u2.alloc (.cells (Qag q.kind q.term q.vote q.prev qa (List.length q.l) qc q.snap) 26)=U2 at*;generalize u2.heap.size=QB at*;go_wp2_with fail;refine(HGs.out _ HX.out).mono ?_;rintro e u3 ⟨g3,q3,qa3,qc3,rfl, -⟩
 have al:=via0 (Qad (Below.refl _ u3) (.cells (Qag q3.kind q3.term q3.vote q3.prev qa3 (List.length q3.l) qc3 q3.snap) 26)) g3;go_upto_region 12 with fail;generalize u3.alloc (.cells (Qag q3.kind q3.term q3.vote q3.prev qa3 (List.length q3.l) qc3 q3.snap) 26)=U3 at*;replace BQ:=hidP (BQ.out.below al BQ.out.lt);replace HX:=hidP (HX.out.below al);replace HB:=hidP (via0 al HB.out);replace HA:=hidP (HA.out.below al);replace HBA:=hidP (HBA.out.below al);have HQ2:Hid ((ofN Rw i).isSome=true->∃c,ofN Rw i=some (q,c)/\At U3 qa q.l):=hidP (fun h=>by obtain⟨c,e,a⟩:=HQ.out h;exact⟨c,e,a.below al⟩);clear g3 al HQ HGs;cases hof:ofN Rw i
 case' none=>
  clear HQ2 HI BQ HX;have G0:Below U3.heap.size U3 U3.drew:=(Below.refl _ _).drew;refine wp_region_noPanic ?_;refine wp_region_held_drew (S:=fun(V:World)=>True) (by kernel_rfl) trivial (fun hH=> ?_);generalize U3.drew=ZZ at G0 ⊢;refine ztk [0,1,2,3,4,5,6,7,8,9,10] ?_;repeat(refine ztn (hS:=hH) (h:= ?_);try simp only[zX,zY])
  refine zte ?_;refine ztk [11,12,13,14,15,16,17,18,19] ?_;repeat(refine ztu (hS:=hH) (h:= ?_);try simp only[zX,zY])
  refine zte ?_;refine ztk [20,21] ?_;repeat(refine ztn (hS:=hH) (h:= ?_);try simp only[zX,zY])
  refine zte ?_;refine zdn ?_;replace HB:=hidP (via0 G0 HB.out);replace HA:=hidP (HA.out.below G0);replace HBA:=hidP (HBA.out.below G0);clear G0 hH hof hi64 hR1 hR2 hR3
 case' some pr=>
  obtain⟨x,cx⟩:=pr;rw[hof]at HQ2;obtain⟨cx2,e2,hqa⟩:=HQ2.out rfl;obtain⟨rfl,rfl⟩:x=q/\cx=cx2:=by simpa using e2
  obtain⟨j,rfl,hj1,hj2,hxo,hxb⟩:=HI.out _ _ hof;have HR2:=Qdr (show Qdc x.kind x.term x.vote x.prev x.l x.snap=true from hxo);obtain⟨vr,hvs,hvc⟩:=Qq0 aR cR Rw j (cx - j) (by omega) hR2 hR3 _ HX.out;rw[← hxb]at hvc;rw[show((j:Int)+((cx - j:Nat):Int))=(cx:Int)by omega]at hvs;have EN:Hid (∀W:World,Below U3.heap.size U3 W->Calls Tryz.prog 6 #[.agg (Qag x.kind x.term x.vote x.prev qa (List.length x.l) qc x.snap)] W fun e w' =>∃a' c',e= .returned (.slice a' (ntB x).length c')/\Below W.heap.size W w' /\At w' a' (ntB x)):=hidP (fun W g=>(Qd4 x.kind x.term x.vote x.prev x.snap (by have:=HR2.s;omega) qa qc x.l (by have:=HR2.len;omega) (fun y hy=>Qts (HR2.en y hy)) W (hqa.below g)).mono (fun e w' h=>by
   obtain⟨a',c',e1,g1,o1⟩:=h;exact⟨a',c',e1,g1,(Qay o1).at⟩))
  obtain⟨Bq,hBq⟩:∃Bq,Bq=ntB x:=⟨_,rfl⟩
  rw[← hBq]at EN hvc;clear hBq;have SS:Hid (∀V:World,Below U3.heap.size U3 V->(fun(V:World)=>Blk V QB 26 (Qag x.kind x.term x.vote x.prev qa (List.length x.l) qc x.snap)/\(convert 22 9 vr).run Tryz.prog V= .ok (.string ⟨Bq.toArray⟩) V) V):=hidP (fun V g=>⟨BQ.out.below g BQ.out.lt,hvc V (HX.out.below g)⟩);clear HQ2 HI BQ HX hof hqa e2 hxo hxb hj1 hj2 HR2 hvc;have G0:Below U3.heap.size U3 U3.drew:=(Below.refl _ _).drew;rw[show nxO (some (x,cx))=(cx:Int)from rfl,show(some (x,cx):Option (Nt × Nat)).isSome=true from rfl];refine wp_region_noPanic ?_;refine wp_region_held_drew (S:=(fun(V:World)=>Blk V QB 26 (Qag x.kind x.term x.vote x.prev qa (List.length x.l) qc x.snap)/\(convert 22 9 vr).run Tryz.prog V= .ok (.string ⟨Bq.toArray⟩) V)) (by kernel_rfl) (SS.out _ G0) (fun hH=> ?_);generalize U3.drew=Y at G0 hH ⊢;refine ztk [0,1,2,3,4,5,6,7,8,9,10] ?_;repeat(refine ztn (hS:=hH) (h:= ?_);try simp only[zX,zY])
  refine zte ?_;refine zt1 11 ?_;refine ztn (hS:=hH) (hy:=fun w' hSw=>Qa2 rfl rfl hSw.1 Tryz.underlying26 Qi4) (h:= ?_);try simp only[zX,zY]
  refine zte ?_;refine ztk [14,15,16,17,18] ?_;repeat(refine ztn (hS:=hH) (h:= ?_);try simp only[zX,zY])
  refine zte ?_;refine zR1 12 (fun K hK=> ?_);simp only[zG];go_simp;refine(EN.out _ G0).mono ?_;rintro e ZZ ⟨a1,k1,rfl,g1,AT1⟩;have G1:=via0 g1 G0;refine hK.out _ _ (SS.out _ G1) (fun hH=> ?_);clear hK K g1
  try simp only[zX,zY]
  refine zR1 13 (fun K hK=> ?_);simp only[zG];have hcv:=Qgg a1 k1 Bq ZZ AT1;go_simp;refine hK.out _ _ hH (fun hH=> ?_);clear hK K hcv AT1
  try simp only[zX,zY]
  refine ztk [19,20,21] ?_;repeat(refine ztn (hS:=hH) (h:= ?_);try simp only[zX,zY])
  refine zte ?_;refine zdn ?_;replace HB:=hidP (via0 G1 HB.out);replace HA:=hidP (HA.out.below G1);replace HBA:=hidP (HBA.out.below G1);clear G0 G1 hH SS EN hvs hi64 hR1 hR2 hR3
 all_goals
  rcases hbp.out with⟨hnb,hpos,hfr⟩|⟨hnb,hnil⟩
  rotate_left
  . subst hnil;go_wp2;go_ret;exact⟨rfl,HB.out⟩
  have HFR:=hidP hfr;have HK:=hidP (HOK.out hnb);have HNR:=hidP (hrg.out hnb);clear hbp hrg HOK hfr hnb;have hne:((Bs.length:Int)==0)=false:=by simp;intro h;rw[h]at hpos;simp at hpos
  have hne2:¬Bs.length=0:=by omega
  have hne3:¬Bs= []:=by intro h;rw[h]at hpos;simp at hpos
  have hne4:((Bs.length:Int)==0)=false:=hne;have HF6:=hidP (fun r=>Qmz (⟨k,t,v,p,L,s⟩:Nt) HK.out Bs HFR.out (by omega) r);have own0:=Qfe (g:=ZZ.heap.size) (B:=ZZ.heap.size) (W:=ZZ) (Nat.le_refl _) rfl;have al:=Qad (Below.refl _ ZZ) (.cells #[] 5);obtain⟨x4,c4,W4,hr4,own4,g4⟩:=Qcj (xs:= []) (c' :=cb) (show ZZ.heap.size<=(ZZ.alloc (.cells #[] 5)).heap.size by simp) own0 (HBA.out.below al) (by simp;omega);rw[List.nil_append]at hr4 own4;have u4:=Qdm own0 (show ZZ.heap.size<=(ZZ.alloc (.cells #[] 5)).heap.size by simp) g4;have al4:=al.trans u4;have s4:=al4.size;have HA4:=hidP (HA.out.below al4);have O4:=hidP own4;have AL4:=hidP al4;clear own0 al u4 g4 al4 own4;go_wp2_with (at_builtin;refine Qac rfl _ _ _ rfl _ _ _ rfl rfl hr4 ?_);refine(Ql7 A cap l hl1 Hby.out 1 (by omega) 1 rfl _ HA4.out).mono ?_;rintro e W5 ⟨y1,rfl,hy10,hy11,rfl⟩;have hat:At (W5.alloc (.cells #[.int .u8 y1] 5)) (some ⟨W5.heap.size,0,none⟩) [u8 y1]:= .inr ⟨_,_,rfl,by simp,Qjl W5 [u8 y1] #[.int .u8 y1] 5 (by
   show [Value.int .u8 y1]= [Value.int .u8 ((u8 y1).toNat:Int)]
   rw[Qeq hy10 hy11])⟩
  obtain⟨x6,c6,W7,hr6,own6,g6⟩:=Qcj (c' :=1) (show ZZ.heap.size<=(W5.alloc (.cells #[.int .u8 y1] 5)).heap.size by simp;omega) (Qau O4.out (.cells #[.int .u8 y1] 5)) hat (by simp;omega);have u6:=Qdm (Qau O4.out (.cells #[.int .u8 y1] 5)) (show ZZ.heap.size<=(W5.alloc (.cells #[.int .u8 y1] 5)).heap.size by simp;omega) g6;have ch:Below ZZ.heap.size W5 W7:=((Qad (Below.refl _ W5) (.cells #[.int .u8 y1] 5)).mono s4).trans u6;obtain⟨hc61,hc62⟩:=Qel own6;have hof6:=HF6.out [u8 y1];have hl6:(Bs++ [u8 y1]).length<=41001:=by simp;omega
  generalize Bs++ [u8 y1]=B6 at*;have HI6:=hidP (Qgd x6 c6 B6 (by omega) hc61 hc62 0 ⟨by omega,by omega⟩ W7 (Qay own6).at);rw[hof6]at HI6;rw[show nxO (some ((⟨k,t,v,p,L,s⟩:Nt),Bs.length))=(Bs.length:Int)from rfl,show(some ((⟨k,t,v,p,L,s⟩:Nt),Bs.length):Option (Nt × Nat)).isSome=true from rfl]at HI6;have ch2:=AL4.out.trans ch;replace HA:=hidP (HA.out.below ch2);replace HBA:=hidP (HBA.out.below ch2);replace HB:=hidP (via0 ch2 HB.out);clear ch2 AL4;clear own6 g6 u6 hat hof6 O4 HA4 HF6 ch s4;go_wp2_with (at_builtin;refine Qac rfl _ _ _ rfl _ _ _ rfl rfl hr6 ?_);refine HI6.out.mono ?_;rintro e w8 ⟨g8,q8,qa8,qc8,rfl, -⟩;replace HA:=hidP (HA.out.below g8);replace HBA:=hidP (HBA.out.below g8);replace HB:=hidP (via0 g8 HB.out);have al:=Qad (Below.refl _ w8) (.cells (Qag q8.kind q8.term q8.vote q8.prev qa8 (List.length q8.l) qc8 q8.snap) 26);replace HA:=hidP (HA.out.below al);replace HBA:=hidP (HBA.out.below al);replace HB:=hidP (via0 al HB.out);clear g8 al hr4 hr6;go_upto_region 17 with fail;generalize w8.alloc (.cells (Qag q8.kind q8.term q8.vote q8.prev qa8 (List.length q8.l) qc8 q8.snap) 26)=W8 at*;have hgn:getN Bs 0=some ((Qb5 k t v p L s).length,(numB (Qb5 k t v p L s).length).length):=by
   rw[HFR.out];exact Qm0 _ (by have:=hno;rw[HFR.out]at this;unfold Qbk at this;simp only[List.length_append]at this;omega)
  have hhl:=Qsd (Qb5 k t v p L s);rw[← HFR.out]at hhl;have HGN:=hidP (Qhn ab cb Bs (by omega) 0 ⟨by omega,by omega⟩ W8 HBA.out);rw[hgn]at HGN;obtain⟨hd,hhd⟩:∃hd,hd=(numB (Qb5 k t v p L s).length).length:=⟨_,rfl⟩
  rw[← hhd]at HGN hhl;have HHD:=hidP hhd;obtain⟨nn,hnn⟩:∃nn,nn=(Qb5 k t v p L s).length:=⟨_,rfl⟩
  rw[← hnn]at HGN;replace HGN:Hid (Calls Tryz.prog 18 (l1SI ab Bs.length cb 0) W8 fun e w' =>e= .returned (.tuple (Qk3 (nn:Int) (hd:Int) true))/\Below W8.heap.size W8 w'):=HGN;clear hgn hhd hnn;have hlen:((Bs.length:Int)!=(Bs.length:Int))=false:=by simp
  go_wp2_with fail;refine HGN.out.mono ?_;rintro e w9 ⟨rfl,g9⟩;replace HA:=hidP (HA.out.below g9);replace HBA:=hidP (HBA.out.below g9);replace HB:=hidP (via0 g9 HB.out);clear g9 HGN;have hhp:hd<Bs.length:=by omega
  have hnv:∀m:Nat,m<Bs.length->ofN (Bs.take m) 0=none:=fun m hm=>Qq1 (x:=(⟨k,t,v,p,L,s⟩:Nt)) HK.out HFR.out (by omega) hm
  have HNV:=hidP hnv;have HFL:Hid (∀(m:Nat) (y:UInt8),hd<=m->m<Bs.length->Bs[m]? ≠some y->ofN (Bs.set m y) 0=none):=hidP (fun m y h1 h2 h3=>Qpe HFR.out (by omega) (HHD.out▸h1) h2 h3);clear hnv HFR HHD HK HNR hhl hne hne2 hne3 hne4 hlen;go_wp2
  go_loopw [21] (fun i W=>∃(n:Nat),i= .int .i64 (n:Int)/\n<=12/\Hid (Below w9.heap.size w9 W)) (fun i _=>12 - (intOf i).toNat)
  case atStart=>exact⟨0,rfl,by omega,hidP (Below.refl _ _)⟩
  case round=>
   obtain⟨n,rfl,hn,hW⟩:=hrel;by_cases hlt:n<12
   . have hi1:(n:Int)<12:=(by omega);have HAr:=hidP (HA.out.below hW.out);have HBr:=hidP (HBA.out.below hW.out);go_wp2_with fail;refine(Ql7 A cap l hl1 Hby.out n (by omega) (n:Int) rfl _ HAr.out).mono ?_;rintro e v1 ⟨y0,rfl,hy0,hy1,rfl⟩;obtain⟨m,hm,hq,hm0,hm1⟩:=Qtr y0 Bs.length hy0 hy1 hpos hno;have hmI:(m:Int)<=41000:=(by omega);obtain⟨T,hT⟩:∃T,T=Bs.take m:=⟨_,rfl⟩
     have hTm:T.length=m:=(by rw[hT,List.length_take];omega);have hcut:∀W:World,(Instr.slice 22 (.slice ab Bs.length cb) none (some (.int .i64 (m:Int))) none).run Tryz.prog W= .ok (.slice ab T.length cb) W:=fun W=>by
      rw[hTm];exact Qrg ab Bs.length cb m (by omega) hcb2 W
     have HC:=hidP (Qgd ab cb T (by omega) (by omega) hcb2 0 ⟨by omega,by omega⟩ v1 (hT▸Qni HBr.out m));rw[show ofN T 0=none from hT▸HNV.out m hm,show nxO none=0 from rfl,show(none:Option (Nt × Nat)).isSome=false from rfl]at HC;clear hT hTm;go_upto_region 24 with fail;clear hq hm0 hm1;go_wp2_with fail;refine HC.out.mono ?_;rintro e v2 ⟨g2,q2,qa2,qc2,rfl, -⟩;have al:=via0 (Qad (Below.refl _ v2) (.cells (Qag q2.kind q2.term q2.vote q2.prev qa2 (List.length q2.l) qc2 q2.snap) 26)) g2;replace HAr:=hidP (HAr.out.below al);replace HBr:=hidP (HBr.out.below al);replace hW:=hidP (via0 al hW.out);clear g2 al HC hcut;go_upto_region 27 with fail;generalize v2.alloc (.cells (Qag q2.kind q2.term q2.vote q2.prev qa2 (List.length q2.l) qc2 q2.snap) 26)=V2 at*;have own0:=Qfe (g:=V2.heap.size) (B:=V2.heap.size) (W:=V2) (Nat.le_refl _) rfl;have al:=Qad (Below.refl _ V2) (.cells #[] 5);obtain⟨x4,c4,W4,hr4,own4,g4⟩:=Qcj (xs:= []) (c' :=cb) (show V2.heap.size<=(V2.alloc (.cells #[] 5)).heap.size by simp) own0 (HBr.out.below al) (by simp;omega);rw[List.nil_append]at hr4 own4;have u4:=Qdm own0 (show V2.heap.size<=(V2.alloc (.cells #[] 5)).heap.size by simp) g4;have al4:=al.trans u4;obtain⟨hc41,hc42⟩:=Qel own4;obtain⟨bc,hpl,hbc,_⟩:=Pl.of_own (α:=UInt8) own4 hpos;obtain rfl:=hpl.a;have HPL:=hidP hpl;have hwv:w9.heap.size<=bc:=(by have:=hW.out.size;omega);replace HAr:=hidP (HAr.out.below al4);replace hW:=hidP (via0 al4 hW.out);clear own0 al u4 g4 al4 own4 hpl HBr;go_wp2_with (at_builtin;refine Qac rfl _ _ _ rfl _ _ _ rfl rfl hr4 ?_);refine(Ql7 A cap l hl1 Hby.out (n+1) (by omega) ((n:Int)+1) (by omega) _ HAr.out).mono ?_;rintro e v3 ⟨y3,rfl,hy30,hy31,rfl⟩;clear hr4;obtain⟨pl,hp1,hp2,d,hdq,hdp,hd0,hd1,hpm0,hpm1⟩:=Qp5 y3 hd Bs.length hy30 hy31 hhp hno
     have hplI:(pl:Int)<(Bs.length:Int):=(by omega);have hpl0:(0:Int)<=(pl:Int):=(by omega);have hget:=HPL.out.i.getB pl hp2;simp only[Nat.zero_add]at hget;have hqb:=HPL.out.lt;have hwn:IntKind.i64.wrap ((n:Int)+2)=(n:Int)+2:=(by rw[IntKind.wrap_i64];omega);have SS:Hid (∀V:World,Below v3.heap.size v3 V->(fun(V:World)=>V.cell? ⟨bc,pl,none⟩=some (.int .u8 (Bs[pl].toNat:Int))) V):=hidP (fun V g=>((World.cell?_of_block (a:=⟨bc,pl,none⟩) (g.block bc hqb)).trans hget));go_upto_region 29 with fail;clear hdq hdp hpm0 hpm1 hd0 hd1;refine wp_region_noPanic ?_;have hH:((fun(V:World)=>V.cell? ⟨bc,pl,none⟩=some (.int .u8 (Bs[pl].toNat:Int)))) _:=SS.out _ (Below.refl _ _).drew;refine Qe2 14 ((fun(V:World)=>V.cell? ⟨bc,pl,none⟩=some (.int .u8 (Bs[pl].toNat:Int)))) (by kernel_rfl) ?_;have G0:Below v3.heap.size v3 v3.drew:=(Below.refl _ _).drew;have HAY:=hidP (HAr.out.below G0);have HPLY:=hidP (HPL.out.offp (T:=fun _=>False) (Offp.of_below G0) (fun h=>h));obtain⟨⟨v0,d0⟩,f0⟩:=Qng HPLY.out.th hp2;simp only[Nat.zero_add]at d0 f0;have hWY:=hidP (via0 G0 hW.out);generalize v3.drew=Y at G0 HAY HPLY hWY hH d0 f0 ⊢;have hqb:=HPLY.out.lt;refine' Qa6 (i:=0) (v:=_) (by kernel_rfl) rfl (by kernel_rfl) (by decide) (by kernel_rfl) (by kernel_rfl) (by kernel_rfl) (fun _ _ _ h=>h) (Or.inl ⟨by rfl,?_⟩) (by assumption) ?_
     rotate_left
     . (intro w hSw;(try dsimp only at hSw);go_simp<;>with_reducible rfl)
     try simp only[zX,zY]
     refine' Qa6 (i:=1) (v:=_) (by kernel_rfl) rfl (by kernel_rfl) (by decide) (by kernel_rfl) (by kernel_rfl) (by kernel_rfl) (fun _ _ _ h=>h) (Or.inl ⟨by rfl,?_⟩) (by assumption) ?_
     rotate_left
     . (intro w hSw;(try dsimp only at hSw);go_simp<;>with_reducible rfl)
     try simp only[zX,zY]
     refine' Qa6 (i:=2) (v:=_) (by kernel_rfl) rfl (by kernel_rfl) (by decide) (by kernel_rfl) (by kernel_rfl) (by kernel_rfl) (fun _ _ _ h=>h) (Or.inl ⟨by rfl,?_⟩) (by assumption) ?_
     rotate_left
     . (intro w hSw;(try dsimp only at hSw);go_simp<;>with_reducible rfl)
     try simp only[zX,zY]
     refine' Qa6 (i:=3) (v:=_) (by kernel_rfl) rfl (by kernel_rfl) (by decide) (by kernel_rfl) (by kernel_rfl) (by kernel_rfl) (fun _ _ _ h=>h) (Or.inl ⟨by rfl,?_⟩) (by assumption) ?_
     rotate_left
     . (intro w hSw;(try dsimp only at hSw);go_simp<;>with_reducible rfl)
     try simp only[zX,zY]
     refine' Qa6 (i:=4) (v:=_) (by kernel_rfl) rfl (by kernel_rfl) (by decide) (by kernel_rfl) (by kernel_rfl) (by kernel_rfl) (fun _ _ _ h=>h) (Or.inl ⟨by rfl,?_⟩) (by assumption) ?_
     rotate_left
     . (intro w hSw;(try dsimp only at hSw);go_simp<;>with_reducible rfl)
     try simp only[zX,zY]
     refine' Qa6 (i:=5) (v:=_) (by kernel_rfl) rfl (by kernel_rfl) (by decide) (by kernel_rfl) (by kernel_rfl) (by kernel_rfl) (fun _ _ _ h=>h) (Or.inl ⟨by rfl,?_⟩) (by assumption) ?_
     rotate_left
     . (intro w hSw;(try dsimp only at hSw);go_simp<;>with_reducible rfl)
     try simp only[zX,zY]
     refine' Qa6 (i:=6) (v:=_) (by kernel_rfl) rfl (by kernel_rfl) (by decide) (by kernel_rfl) (by kernel_rfl) (by kernel_rfl) (fun _ _ _ h=>h) (Or.inl ⟨by rfl,?_⟩) (by assumption) ?_
     rotate_left
     . (intro w hSw;(try dsimp only at hSw);go_simp<;>with_reducible rfl)
     try simp only[zX,zY]
     refine' Qa6 (i:=7) (v:=_) (by kernel_rfl) rfl (by kernel_rfl) (by decide) (by kernel_rfl) (by kernel_rfl) (by kernel_rfl) (fun _ _ _ h=>h) (Or.inl ⟨by rfl,?_⟩) (by assumption) ?_
     rotate_left
     . (intro w hSw;(try dsimp only at hSw);go_simp<;>with_reducible rfl)
     try simp only[zX,zY]
     refine' Qa6 (i:=8) (v:=_) (by kernel_rfl) rfl (by kernel_rfl) (by decide) (by kernel_rfl) (by kernel_rfl) (by kernel_rfl) (fun _ _ _ h=>h) (Or.inl ⟨by rfl,?_⟩) (by assumption) ?_
     rotate_left
     . (intro w hSw;(try dsimp only at hSw);go_simp<;>with_reducible rfl)
     try simp only[zX,zY]
     refine Qcc (i:=9) (by kernel_rfl) rfl (fun K hK=> ?_);simp only[zG];go_simp;refine(Ql7 A cap l hl1 Hby.out (n+2) (by omega) ((n:Int)+2) (by omega) _ HAY.out).mono ?_;rintro e v4 ⟨y4,rfl,hy40,hy41,hv4⟩;subst hv4;obtain⟨sf,hs8,hrem⟩:=rem8 y4 hy40 hy41;have hsw:IntKind.i64.wrap (sf:Int)=(sf:Int):=(by rw[IntKind.wrap_i64];omega);have hrem2:=(congrArg IntKind.i64.wrap hrem).trans hsw;obtain⟨yb,hyb,hfx⟩:=Quc Bs[pl] sf hs8;have hsI:(sf:Int)<8:=(by omega);have hH4:=hH;refine hK.out _ _ (.inr hH4) ?_;clear hK K
     try simp only[zX,zY]
     refine' Qa6 (i:=10) (v:=_) (by kernel_rfl) rfl (by kernel_rfl) (by decide) (by kernel_rfl) (by kernel_rfl) (by kernel_rfl) (fun _ _ _ h=>h) (Or.inl ⟨by rfl,?_⟩) (by assumption) ?_
     rotate_left
     . (intro w hSw;(try dsimp only at hSw);go_simp<;>with_reducible rfl)
     try simp only[zX,zY]
     refine' Qa6 (i:=11) (v:=_) (by kernel_rfl) rfl (by kernel_rfl) (by decide) (by kernel_rfl) (by kernel_rfl) (by kernel_rfl) (fun _ _ _ h=>h) (Or.inl ⟨by rfl,?_⟩) (by assumption) ?_
     rotate_left
     . (intro w hSw;(try dsimp only at hSw);go_simp<;>with_reducible rfl)
     try simp only[zX,zY]
     refine' Qa6 (i:=12) (v:=_) (by kernel_rfl) rfl (by kernel_rfl) (by decide) (by kernel_rfl) (by kernel_rfl) (by kernel_rfl) (fun _ _ _ h=>h) (Or.inl ⟨by rfl,?_⟩) (by assumption) ?_
     rotate_left
     . (intro w hSw;(try dsimp only at hSw);go_simp<;>with_reducible rfl)
     try simp only[zX,zY]
     refine' Qa6 (i:=13) (v:=_) (by kernel_rfl) rfl (by kernel_rfl) (by decide) (by kernel_rfl) (by kernel_rfl) (by kernel_rfl) (fun _ _ _ h=>h) (Or.inl ⟨by rfl,?_⟩) (by assumption) ?_
     rotate_left
     . (intro w hSw;(try dsimp only at hSw);go_simp<;>with_reducible rfl)
     try simp only[zX,zY]
     refine Qcc (i:=14) (by kernel_rfl) rfl (fun K hK=> ?_);simp only[zG];go_simp;refine hK.out _ _ (.inl rfl) ?_;clear hK K
     try simp only[zX,zY]
     refine Qgk (by kernel_rfl) ?_ _;refine NoPanic.normal ?_;have HPS:=HPLY.out.set pl hp2 yb;have e9:v4.setCells bc (pl*Cel.k UInt8) (Cel.cs yb)=v4.setCell ⟨bc,pl,none⟩ (.int .u8 (yb.toNat:Int)):=by
      show(v4.setCell ⟨bc,pl*1,none⟩ _)=_;rw[Nat.mul_one]
     rw[e9]at HPS;have hWs:=hidP (Qav hWY.out (i:=pl) hwv (.int .u8 (yb.toNat:Int)));clear e9 HPLY HPL HAY HAr G0 hWY hW SS d0 f0 hqb hfx hrem hrem2 hsw hsI hH hH4 hwn;go_upto_region 30 with fail;generalize v4.setCell ⟨bc,pl,none⟩ (.int .u8 (yb.toNat:Int))=V5 at*;have HC5:=hidP (Qgd (some ⟨bc,0,none⟩) c4 (Bs.set pl yb) (by rw[List.length_set];omega) (by rw[List.length_set];exact hc41) hc42 0 ⟨by omega,by omega⟩ V5 HPS.at);rw[HFL.out pl yb hp1 hp2 (by rw[List.getElem?_eq_getElem hp2];intro h;exact hyb (Option.some.inj h).symm),show nxO none=0 from rfl,show(none:Option (Nt × Nat)).isSome=false from rfl,List.length_set]at HC5;clear HPS hget;go_wp2_with fail;refine HC5.out.mono ?_;rintro e v6 ⟨g6,q6,qa6,qc6,rfl, -⟩;go_wp2;exact⟨⟨n+1,by go_num,by omega,hidP (via0 (via0 (Qad (Below.refl _ v6) _) g6) hWs.out)⟩,by simp[intOf];omega⟩
   . have hge:¬(n:Int)<12:=(by omega);go_wp2;go_ret;exact⟨rfl,via0 hW.out HB.out⟩
end Go.Proofs.YtajbldnhjpjghaaGreat.NotX
