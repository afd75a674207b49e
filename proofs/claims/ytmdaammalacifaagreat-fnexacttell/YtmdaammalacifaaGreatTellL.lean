/-
  FnExactTell: at every node and message the program's Tell answers as the specification's, writes into no argument and keeps nothing of one; its answer owns its memory. No condition.
-/
import Derived.Test.YtmdaammalacifaaGreatTlC
set_option linter.unusedVariables false
set_option linter.unusedSimpArgs false
set_option maxRecDepth 100000
set_option maxHeartbeats 8000000
namespace Go.Proofs.YtmdaammalacifaaGreat.Tell
open ChangeShapes WideShapes ChangeAt RowKit Joins Deep Base Gen
theorem own : ownKnob Tryz.prog.godebug = none := by kernel_rfl
theorem laidOut : laidOutB Tryz.prog = true := by kernel_rfl
structure Lq (w W : World) (p : PC) (r : RpC) : Prop where
  b2 : Blk W w.heap.size 40 (Qaf p)
  b3 : Blk W (w.heap.size + 1) 42 (rpcC r)
  bl : Below w.heap.size w W
theorem Lq.below {w W W' : World} {p : PC} {r : RpC} (h : Lq w W p r) (g : Below W.heap.size W W') : Lq w W' p r := ⟨h.b2.below g h.b2.lt, h.b3.below g h.b3.lt, via0 g h.bl⟩
theorem Lq.row {w W : World} {p : PC} {r : RpC} {P : Nat} (m : Lq w W p r) (hP : w.heap.size + 1 < P) (cs : Array Value) : Lq w (W.setRow P cs) p r := ⟨m.b2.otherRow (by omega) cs, m.b3.otherRow (by omega) cs, Qbx m.bl (by omega) cs⟩
theorem Lq.offp {w W W' : World} {p : PC} {r : RpC} {T : Nat -> Prop} (m : Lq w W p r) (k : Offp T W W') (hT : ∀ z, T z -> w.heap.size + 1 < z) : Lq w W' p r := ⟨m.b2.offp k (fun e => by have := hT _ e; omega), m.b3.offp k (fun e => by have := hT _ e; omega), m.bl.trans (k.toBelow (fun z e => by have := hT z e; omega) m.bl.size)⟩
def Iv (n0 n1 z : Nat) : Prop := n0 <= z /\ z < n1
def Cut (V wx : World) (p : PC) (r : RpC) (D : Bool) (s6 s7 : Value) : Prop := ∃ (P n0 n1 : Nat) (a : PC), s6 = .pointer (some ⟨P, 0, none⟩) /\ s7 = .bool D /\ Blk wx P 59 (Qaf a) /\ SameP a (Qco p r) /\ POwn wx a (Iv n0 n1) /\ (V.heap.size <= n0 /\ n0 <= n1 /\ n1 <= wx.heap.size /\ (P < n0 ∨ n1 <= P) /\ V.heap.size <= P) /\ Below V.heap.size V wx
theorem Qdk {V X : World} {p a : PC} {r : RpC} {D : Bool} {old : Array Value} {P n0 n1 : Nat} (O : Blk X P 59 old) (Bv : Below V.heap.size V X) (sa : SameP a (Qco p r)) (oa : POwn X a (fun z => n0 <= z /\ z < n1)) (h1 : V.heap.size <= n0) (h2 : n0 <= n1 /\ n1 <= X.heap.size) (h3 : P < n0 ∨ n1 <= P) (h4 : V.heap.size <= P) :
 Cut V (X.setRow P (Qaf a)) p r D (.pointer (some ⟨P, 0, none⟩)) (.bool D) := by
 have k := (Offp.refl (fun z => z = P) X).row (b := P) rfl (Qaf a)
 have hk := k.size
 exact ⟨P, n0, n1, a, rfl, rfl, O.row _, sa, oa.offp k (fun z hz e => by omega), ⟨h1, h2.1, by omega, h3, h4⟩, Qbx Bv h4 _⟩
structure St (w W : World) (p : PC) (r : RpC) (b6 n0 n1 n2 n3 n4 n5 n6 n7 : Nat) (a x g g' : PC) (y : RpC) : Prop where
  l : Lq w W p r
  o6 : Blk W b6 59 (Qaf a)
  oa : POwn W a (Iv n0 n1)
  o8 : Blk W n3 59 (Qaf x)
  o9 : Blk W n5 64 (rpcC y)
  o10 : Blk W n7 59 (Qaf g)
  og : POwn W g' (Iv n6 n7)
  ne : (w.heap.size + 1 < n0 /\ w.heap.size + 1 < b6 /\ n0 <= n1 /\ n1 <= n2 /\ (b6 < n0 ∨ n1 <= b6) /\ b6 < n2) /\ n2 <= n3 /\ n3 < n4 /\ n4 <= n5 /\ n5 < n6 /\ n6 <= n7
section
variable {w W W' : World} {p : PC} {r : RpC} {b6 n0 n1 n2 n3 n4 n5 n6 n7 : Nat} {a x g g' : PC} {y : RpC}
theorem St.below (h : St w W p r b6 n0 n1 n2 n3 n4 n5 n6 n7 a x g g' y) (k : Below W.heap.size W W') : St w W' p r b6 n0 n1 n2 n3 n4 n5 n6 n7 a x g g' y := ⟨h.l.below k, h.o6.below k h.o6.lt, h.oa.below k, h.o8.below k h.o8.lt, h.o9.below k h.o9.lt, h.o10.below k h.o10.lt, h.og.below k, h.ne⟩
theorem St.offX (h : St w W p r b6 n0 n1 n2 n3 n4 n5 n6 n7 a x g g' y) {T : Nat -> Prop} (hT : ∀ z, T z -> Iv n2 n3 z ∨ Iv n4 n5 z) (k : Offp T W W') : St w W' p r b6 n0 n1 n2 n3 n4 n5 n6 n7 a x g g' y := by
 obtain ⟨⟨e1, e2, e3, e4, e5, e6⟩, e7, e8, e9, e10, e11⟩ := h.ne
 have hT' : ∀ z, T z -> (n2 <= z /\ z < n3) ∨ (n4 <= z /\ z < n5) := hT
 exact ⟨h.l.offp k (fun z e => by have := hT' z e; omega), h.o6.offp k (fun e => by have := hT' _ e; omega), h.oa.offp k (fun z hz e => by have := hT' z e; have h1 := hz.1; have h2 := hz.2; omega), h.o8.offp k (fun e => by have := hT' _ e; omega), h.o9.offp k (fun e => by have := hT' _ e; omega), h.o10.offp k (fun e => by have := hT' _ e; omega), h.og.offp k (fun z hz e => by have := hT' z e; have h1 := hz.1; have h2 := hz.2; omega), h.ne⟩
theorem St.offG (h : St w W p r b6 n0 n1 n2 n3 n4 n5 n6 n7 a x g g' y) (k : Offp (Iv n6 n7) W W') {g2 : PC} (hg : POwn W' g2 (Iv n6 n7)) : St w W' p r b6 n0 n1 n2 n3 n4 n5 n6 n7 a x g g2 y := by
 obtain ⟨⟨e1, e2, e3, e4, e5, e6⟩, e7, e8, e9, e10, e11⟩ := h.ne
 have hT' : ∀ z, Iv n6 n7 z -> n6 <= z /\ z < n7 := fun z e => e
 exact ⟨h.l.offp k (fun z e => by have := hT' z e; omega), h.o6.offp k (fun e => by have := hT' _ e; omega), h.oa.offp k (fun z hz e => by have := hT' z e; have h1 := hz.1; have h2 := hz.2; omega), h.o8.offp k (fun e => by have := hT' _ e; omega), h.o9.offp k (fun e => by have := hT' _ e; omega), h.o10.offp k (fun e => by have := hT' _ e; omega), hg, h.ne⟩
end
theorem Qde {P : Program} {ops : Array Oper} {rest : List Oper} {op : Oper} {a : Act} {w : World} {Q : Go.Exit -> Act -> World -> Prop} (hw : Region.wanted op (yielded ops a.tmps) = true) (ty : TypeId) (x : Operand) (ho : op.op = .load ty x) {b : Nat} (hx : a.eval x = .pointer (some ⟨b, 0, none⟩)) {t : TypeId} {vs : Array Value} (p : Blk w b t vs) {fs : Array Field} (hu : P.underlying ty = some (.struct fs)) (hi : (P.info? ty).map (·.size) = some vs.size)
 (h : wpList P ops Q rest (a.put op.dst (.agg vs)) w) : wpList P ops Q (op :: rest) a w :=
 wpList_step fun K hK => by
  rw [if_pos hw]
  unfold Oper.wp execOp
  simp only [ho, hx, Instr.loadAt, Instr.sureAddr, Sem.run_bind, Sem.run_pure, Result.andThen_ok, run_loadVar_row w b t ty vs (0, 0) (.struct fs) p hu rfl hi]
  exact hK _ _ h
theorem law_any (p : PC) (hr : PRight p) (r : RpC) (hsn : r.snap.size <= 9223372036854775807) (hrl : r.l.length <= 9223372036854775807) (hrr : ∀ x ∈ r.l, x.right) (w : World) (hp : PAt w p) (ha : At w r.A r.l) :
 Calls Tryz.prog 3 #[.agg (Qaf p), .agg (rpcC r)] w fun e w' => e = .returned (.bool true) /\ Below w.heap.size w w' := by
 have Z1 : Hid (∀ W : World, Below w.heap.size w W -> Calls Tryz.prog 4 #[.agg (Qaf p), .int .i64 1048576] W fun e w' => (∃ z : Int, e = .returned (.int .i64 z) /\ (z < 0 ∨ (0 <= z /\ z <= 1048576 /\ PFit p /\ (r.l.length <= z -> PFit (Qco p r))))) /\ Below W.heap.size W w') := fun W g => (szPeer_tot p hr W (hp.below g)).mono fun e w' ⟨⟨z, e1, h⟩, g⟩ => ⟨⟨z, e1, h.imp id (fun h => ⟨h.1, h.2.2.1, h.2.1, fun hz => PFit.tell h.2.1 h.2.2.2 hz h.2.2.1⟩)⟩, g⟩
 have Z2 : Hid (∀ (z : Int) (W : World), 0 <= z -> z <= 1048576 -> Below w.heap.size w W -> Calls Tryz.prog 5 #[.agg (rpcC r), .int .i64 z] W fun e w' => (∃ y : Int, e = .returned (.int .i64 y) /\ (y < 0 ∨ (0 <= y /\ (r.l.length : Int) <= z))) /\ Below W.heap.size W w') := fun z W h0 h1 g => (Qfe r.kind r.frm r.too r.term r.index r.iterm r.commit r.ok r.snap hsn r.A r.cap r.l hrl (fun x hx => (hrr x hx).fit) z h0 h1 W (ha.below g)).mono fun e w' ⟨⟨y, e1, h⟩, g⟩ => ⟨⟨y, e1, h.imp id (fun h => ⟨h.1, by have := h.2; omega⟩)⟩, g⟩
 have CT0 : Hid (PFit p -> ∀ W : World, Below w.heap.size w W -> Calls Tryz.prog 7 #[.agg (Qaf p)] W fun e w' => ∃ v, e = .returned v /\ NewQ W w' v p /\ Below W.heap.size W w') := fun hf W g => toQ hf (hp.below g)
 have CR0 : Hid (r.l.length <= 1048576 -> ∀ W : World, Below w.heap.size w W -> Calls Tryz.prog 8 #[.agg (rpcC r)] W fun e w' => ∃ v, e = .returned v /\ NewR W w' v r /\ Below W.heap.size W w') := fun hl W g => toR hl (ha.below g)
 obtain ⟨D, hD⟩ : ∃ b, decide (p.hs.length < 40) = b := ⟨_, rfl⟩
 have CS0 : Hid (PFit p -> r.l.length <= 1048576 -> ∀ (W : World) (q : PC) (y : RpC), SameP q p -> y.p = r.p -> PAt W q -> At W y.A y.l -> Calls Tryz.prog 6 #[.agg (Qaf q), .agg (rpcC y)] W fun e w' => ∃ v, e = .returned (.tuple #[v, .bool D]) /\ NewQ W w' v (Qco p r) /\ Below W.heap.size W w') := fun hf hl W q y sq sy hq hy => (Qfj q y (hf.same sq) (by have := congrArg RpP.l sy; simp only [RpC.p] at this; rw [this]; exact hl) W hq hy).mono fun e w' ⟨v, e1, ⟨g, e2, e3, e4⟩, e5⟩ => ⟨v, by rw [e1, Qb3 sq.hs, hD], ⟨g, e2, e3.trans (sq.tell sy), e4⟩, e5⟩
 have CI0 : Hid (PFit p -> r.l.length <= 1048576 -> ∀ (W : World) (q : PC) (y : RpC), SameP q p -> y.p = r.p -> PAt W q -> At W y.A y.l -> Calls Tryz.prog 9 #[.agg (Qaf q), .agg (rpcC y)] W fun e w' => ∃ v, e = .returned (.tuple #[v, .bool D]) /\ NewQ W w' v (Qco p r) /\ Below W.heap.size W w') := fun hf hl W q y sq sy hq hy => (Qf6 q y (hf.same sq) (by have := congrArg RpP.l sy; simp only [RpC.p] at this; rw [this]; exact hl) W hq hy).mono fun e w' ⟨v, e1, ⟨g, e2, e3, e4⟩, e5⟩ => ⟨v, by rw [e1, Qb3 sq.hs, hD], ⟨g, e2, e3.trans (sq.tell sy), e4⟩, e5⟩
 clear hD hp ha hr hsn hrl hrr
 have L : Lq w ((w.alloc (.cells (Qaf p) 40)).alloc (.cells (rpcC r) 42)) p r := ⟨(Blk.new w _ _).alloc _, by have := Blk.new (w.alloc (.cells (Qaf p) 40)) 42 (rpcC r); rwa [World.size_alloc] at this, Qab (Qab (Below.refl _ _) _) _⟩
 go_enter Tryz.func3, Tryz.ntmps3
 go_upto_region 2 with fail
 have HL := hidP L
 clear L
 refine wp_region_lit ?_
 refine Qag rfl 40 _ rfl (b := w.heap.size) rfl HL.out.b2 Tryz.underlying40 (by kernel_rfl) ?_
 go_wp2_with fail
 refine (Z1.out _ HL.out.bl).mono ?_
 rintro e w1 ⟨⟨z, rfl, hz⟩, g⟩
 replace HL := hidP (HL.out.below g)
 clear g
 rcases hz with hz | ⟨hz, hz1, hf, hft⟩
 . go_wp2
   go_ret
   exact ⟨rfl, HL.out.bl⟩
 have nz : ¬ z < 0 := by omega
 have Hft := hidP hft
 clear hft
 go_upto_region 5 with fail
 refine wp_region_lit ?_
 refine Qag rfl 42 _ rfl (b := w.heap.size + 1) rfl HL.out.b3 Tryz.underlying42 (by kernel_rfl) ?_
 go_wp2_with fail
 refine (Z2.out z _ hz hz1 HL.out.bl).mono ?_
 rintro e w2 ⟨⟨y, rfl, hy⟩, g⟩
 replace HL := hidP (HL.out.below g)
 clear g
 rcases hy with hy | ⟨hy, hrz⟩
 . go_wp2
   go_ret
   exact ⟨rfl, HL.out.bl⟩
 have ny : ¬ y < 0 := by omega
 have hl : r.l.length <= 1048576 := by omega
 have FT := hidP (Hft.out hrz)
 have CT := hidP (CT0.out hf)
 have CR := hidP (CR0.out hl)
 have CS := hidP (CS0.out hf hl)
 have CI := hidP (CI0.out hf hl)
 have HF := hidP hf
 clear Hft CT0 CR0 CS0 CI0 Z1 Z2 hz hz1 hrz hf
 go_upto_region 8 with fail
 clear nz ny
 have L := HL.out
 have Vs : Hid (w.heap.size + 1 < w2.heap.size) := hidP L.b3.lt
 clear HL
 go_cut [6, 7] from 27 to 34 (fun s6 s7 wx => Cut w2 wx p r D s6 s7)
 case first =>
  refine wp_region_noPanic ?_
  refine wp_region_held_drew (S := (fun (W : World) => Blk W w.heap.size 40 (Qaf p) /\ Blk W (w.heap.size + 1) 42 (rpcC r))) (by kernel_rfl) ?_ (fun hH => ?_)
  . exact ⟨L.b2, L.b3⟩
  have Bv : Below w2.heap.size w2 w2.drew := (Below.refl _ _).drew
  have L := L.below (Below.refl _ _).drew
  generalize w2.drew = u0 at *
  refine zt1 0 ?_; refine ztn (hy := fun w' hSw => Qa4 rfl rfl hSw.1 Tryz.underlying40 (by kernel_rfl)) (h := ?_); try simp only [zX,zY]
  refine zte ?_
  refine zt1 2 ?_; refine ztn (hy := fun w' hSw => Qa4 rfl rfl hSw.2 Tryz.underlying42 (by kernel_rfl)) (h := ?_); try simp only [zX,zY]
  refine zte ?_
  refine zR2 1 8 (fun K hK => ?_) (fun K hK => ?_)
  . simp only [zG]
    go_simp
    refine (CT.out _ L.bl).mono ?_; rintro e w1 ⟨v1, rfl, hq, g⟩; obtain ⟨q, rfl, sq, oq⟩ := hq; have L := L.below g; have Bv := via0 g Bv; have oq := oq.at; clear g
    refine hK.out _ _ ⟨L.b2, L.b3⟩ fun hH => ?_; clear hK K; try simp only [zX,zY]
    refine zR2 3 8 (fun K hK => ?_) (fun K hK => ?_)
    . simp only [zG]
      go_simp
      refine (CR.out _ L.bl).mono ?_; rintro e w2 ⟨v2, rfl, hq, g⟩; obtain ⟨y, rfl, sy, oy⟩ := hq; have L := L.below g; have Bv := via0 g Bv; have oq := oq.below g; have oy := oy.at; clear g
      refine hK.out _ _ ⟨L.b2, L.b3⟩ fun hH => ?_; clear hK K; try simp only [zX,zY]
      refine zR2 4 8 (fun K hK => ?_) (fun K hK => ?_)
      . simp only [zG]
        go_simp
        refine (CS.out _ q y sq sy oq oy).mono ?_; have m0 := Bv.size; rintro e w3 ⟨v3, rfl, hq, g⟩; obtain ⟨a, rfl, sa, oa⟩ := hq; have m1 := g.size; have L := L.below g; have Bv := via0 g Bv; clear g
        refine hK.out _ _ ⟨L.b2, L.b3⟩ fun hH => ?_; clear hK K; try simp only [zX,zY]
        refine zt1 5 ?_; refine ztn (h := ?_); try simp only [zX,zY]
        refine zte ?_
        refine zt1 6 ?_; refine ztn (h := ?_); try simp only [zX,zY]
        refine zte ?_
        refine zt1 7 ?_; refine ztn (h := ?_); try simp only [zX,zY]
        refine zte ?_
        refine zR1 8 (fun K hK => ?_)
        simp only [zG]
        go_simp
        have O := Qba (cs := #[.int .i64 0, .int .i64 0, .int .i64 0, .int .i64 0, .int .i64 0, .slice none 0 0, .slice none 0 0, .slice none 0 0, .slice none 0 0, .int .i64 0, .slice none 0 0, .slice none 0 0, .int .i64 0, .slice none 0 0, .slice none 0 0, .slice none 0 0, .int .i64 0, .slice none 0 0, .slice none 0 0, .slice none 0 0, .int .i64 0, .slice none 0 0, .slice none 0 0, .slice none 0 0, .int .i64 0, .slice none 0 0]) (t := 59) w3 rfl; have hPl := Bv.size; have L := L.below (Qab (Below.refl _ _) (.cells #[.int .i64 0, .int .i64 0, .int .i64 0, .int .i64 0, .int .i64 0, .slice none 0 0, .slice none 0 0, .slice none 0 0, .slice none 0 0, .int .i64 0, .slice none 0 0, .slice none 0 0, .int .i64 0, .slice none 0 0, .slice none 0 0, .slice none 0 0, .int .i64 0, .slice none 0 0, .slice none 0 0, .slice none 0 0, .int .i64 0, .slice none 0 0, .slice none 0 0, .slice none 0 0, .int .i64 0, .slice none 0 0] 59)); have Bv := via0 (Qab (Below.refl _ _) (.cells #[.int .i64 0, .int .i64 0, .int .i64 0, .int .i64 0, .int .i64 0, .slice none 0 0, .slice none 0 0, .slice none 0 0, .slice none 0 0, .int .i64 0, .slice none 0 0, .slice none 0 0, .int .i64 0, .slice none 0 0, .slice none 0 0, .slice none 0 0, .int .i64 0, .slice none 0 0, .slice none 0 0, .slice none 0 0, .int .i64 0, .slice none 0 0, .slice none 0 0, .slice none 0 0, .int .i64 0, .slice none 0 0] 59)) Bv; have oa := oa.below (Qab (Below.refl _ _) (.cells #[.int .i64 0, .int .i64 0, .int .i64 0, .int .i64 0, .int .i64 0, .slice none 0 0, .slice none 0 0, .slice none 0 0, .slice none 0 0, .int .i64 0, .slice none 0 0, .slice none 0 0, .int .i64 0, .slice none 0 0, .slice none 0 0, .slice none 0 0, .int .i64 0, .slice none 0 0, .slice none 0 0, .slice none 0 0, .int .i64 0, .slice none 0 0, .slice none 0 0, .slice none 0 0, .int .i64 0, .slice none 0 0] 59))
        refine hK.out _ _ ⟨L.b2, L.b3⟩ fun hH => ?_; clear hK K; try simp only [zX,zY]
        generalize World.alloc w3 (.cells #[.int .i64 0, .int .i64 0, .int .i64 0, .int .i64 0, .int .i64 0, .slice none 0 0, .slice none 0 0, .slice none 0 0, .slice none 0 0, .int .i64 0, .slice none 0 0, .slice none 0 0, .int .i64 0, .slice none 0 0, .slice none 0 0, .slice none 0 0, .int .i64 0, .slice none 0 0, .slice none 0 0, .slice none 0 0, .int .i64 0, .slice none 0 0, .slice none 0 0, .slice none 0 0, .int .i64 0, .slice none 0 0] 59) = v8 at *
        refine zR1 9 (fun K hK => ?_)
        simp only [zG]
        rw [if_pos (by rfl)]
        refine wp_store_row 59 _ _ rfl (w3.heap.size) (Qaf a) rfl rfl 59 #[.int .i64 0, .int .i64 0, .int .i64 0, .int .i64 0, .int .i64 0, .slice none 0 0, .slice none 0 0, .slice none 0 0, .slice none 0 0, .int .i64 0, .slice none 0 0, .slice none 0 0, .int .i64 0, .slice none 0 0, .slice none 0 0, .slice none 0 0, .int .i64 0, .slice none 0 0, .slice none 0 0, .slice none 0 0, .int .i64 0, .slice none 0 0, .slice none 0 0, .slice none 0 0, .int .i64 0, .slice none 0 0] O (by kernel_rfl) rfl (Qa5 _) ?_
        have L9 := L.row (P := w3.heap.size) (by have h9 := L.b3.lt; have h8 := Vs.out; omega) (Qaf a)
        refine hK.out _ _ ⟨L9.b2, L9.b3⟩ (fun hH => ?_)
        clear hK K
        try simp only [zX,zY]
        refine zt1 10 ?_; refine ztn (h := ?_); try simp only [zX,zY]
        refine zte ?_
        refine zdn ?_
        go_wp2_with fail
        go_meet
        have m3 := O.lt
        exact Qdk (n0 := w2.heap.size) O Bv sa oa (by omega) (by omega) (by omega) (by omega)
      . simp only [zG]
        go_simp
        have O := Qba (cs := #[.int .i64 0, .int .i64 0, .int .i64 0, .int .i64 0, .int .i64 0, .slice none 0 0, .slice none 0 0, .slice none 0 0, .slice none 0 0, .int .i64 0, .slice none 0 0, .slice none 0 0, .int .i64 0, .slice none 0 0, .slice none 0 0, .slice none 0 0, .int .i64 0, .slice none 0 0, .slice none 0 0, .slice none 0 0, .int .i64 0, .slice none 0 0, .slice none 0 0, .slice none 0 0, .int .i64 0, .slice none 0 0]) (t := 59) w2 rfl; have hPl := Bv.size; have L := L.below (Qab (Below.refl _ _) (.cells #[.int .i64 0, .int .i64 0, .int .i64 0, .int .i64 0, .int .i64 0, .slice none 0 0, .slice none 0 0, .slice none 0 0, .slice none 0 0, .int .i64 0, .slice none 0 0, .slice none 0 0, .int .i64 0, .slice none 0 0, .slice none 0 0, .slice none 0 0, .int .i64 0, .slice none 0 0, .slice none 0 0, .slice none 0 0, .int .i64 0, .slice none 0 0, .slice none 0 0, .slice none 0 0, .int .i64 0, .slice none 0 0] 59)); have Bv := via0 (Qab (Below.refl _ _) (.cells #[.int .i64 0, .int .i64 0, .int .i64 0, .int .i64 0, .int .i64 0, .slice none 0 0, .slice none 0 0, .slice none 0 0, .slice none 0 0, .int .i64 0, .slice none 0 0, .slice none 0 0, .int .i64 0, .slice none 0 0, .slice none 0 0, .slice none 0 0, .int .i64 0, .slice none 0 0, .slice none 0 0, .slice none 0 0, .int .i64 0, .slice none 0 0, .slice none 0 0, .slice none 0 0, .int .i64 0, .slice none 0 0] 59)) Bv; have oq := oq.below (Qab (Below.refl _ _) (.cells #[.int .i64 0, .int .i64 0, .int .i64 0, .int .i64 0, .int .i64 0, .slice none 0 0, .slice none 0 0, .slice none 0 0, .slice none 0 0, .int .i64 0, .slice none 0 0, .slice none 0 0, .int .i64 0, .slice none 0 0, .slice none 0 0, .slice none 0 0, .int .i64 0, .slice none 0 0, .slice none 0 0, .slice none 0 0, .int .i64 0, .slice none 0 0, .slice none 0 0, .slice none 0 0, .int .i64 0, .slice none 0 0] 59)); have oy := oy.below (Qab (Below.refl _ _) (.cells #[.int .i64 0, .int .i64 0, .int .i64 0, .int .i64 0, .int .i64 0, .slice none 0 0, .slice none 0 0, .slice none 0 0, .slice none 0 0, .int .i64 0, .slice none 0 0, .slice none 0 0, .int .i64 0, .slice none 0 0, .slice none 0 0, .slice none 0 0, .int .i64 0, .slice none 0 0, .slice none 0 0, .slice none 0 0, .int .i64 0, .slice none 0 0, .slice none 0 0, .slice none 0 0, .int .i64 0, .slice none 0 0] 59))
        refine hK.out _ _ ⟨L.b2, L.b3⟩ fun hH => ?_; clear hK K; try simp only [zX,zY]
        generalize World.alloc w2 (.cells #[.int .i64 0, .int .i64 0, .int .i64 0, .int .i64 0, .int .i64 0, .slice none 0 0, .slice none 0 0, .slice none 0 0, .slice none 0 0, .int .i64 0, .slice none 0 0, .slice none 0 0, .int .i64 0, .slice none 0 0, .slice none 0 0, .slice none 0 0, .int .i64 0, .slice none 0 0, .slice none 0 0, .slice none 0 0, .int .i64 0, .slice none 0 0, .slice none 0 0, .slice none 0 0, .int .i64 0, .slice none 0 0] 59) = v8 at *
        refine zR1 4 (fun K hK => ?_)
        simp only [zG]
        go_simp
        refine (CS.out _ q y sq sy oq oy).mono ?_; have m0 := Bv.size; have m2 := O.lt; rintro e w3 ⟨v3, rfl, hq, g⟩; obtain ⟨a, rfl, sa, oa⟩ := hq; have m1 := g.size; have L := L.below g; have Bv := via0 g Bv; have O := O.below g O.lt; clear g
        refine hK.out _ _ ⟨L.b2, L.b3⟩ fun hH => ?_; clear hK K; try simp only [zX,zY]
        refine zt1 5 ?_; refine ztn (h := ?_); try simp only [zX,zY]
        refine zte ?_
        refine zt1 6 ?_; refine ztn (h := ?_); try simp only [zX,zY]
        refine zte ?_
        refine zt1 7 ?_; refine ztn (h := ?_); try simp only [zX,zY]
        refine zte ?_
        refine zR1 9 (fun K hK => ?_)
        simp only [zG]
        rw [if_pos (by rfl)]
        refine wp_store_row 59 _ _ rfl (w2.heap.size) (Qaf a) rfl rfl 59 #[.int .i64 0, .int .i64 0, .int .i64 0, .int .i64 0, .int .i64 0, .slice none 0 0, .slice none 0 0, .slice none 0 0, .slice none 0 0, .int .i64 0, .slice none 0 0, .slice none 0 0, .int .i64 0, .slice none 0 0, .slice none 0 0, .slice none 0 0, .int .i64 0, .slice none 0 0, .slice none 0 0, .slice none 0 0, .int .i64 0, .slice none 0 0, .slice none 0 0, .slice none 0 0, .int .i64 0, .slice none 0 0] O (by kernel_rfl) rfl (Qa5 _) ?_
        have L9 := L.row (P := w2.heap.size) (by have h9 := L.b3.lt; have h8 := Vs.out; omega) (Qaf a)
        refine hK.out _ _ ⟨L9.b2, L9.b3⟩ (fun hH => ?_)
        clear hK K
        try simp only [zX,zY]
        refine zt1 10 ?_; refine ztn (h := ?_); try simp only [zX,zY]
        refine zte ?_
        refine zdn ?_
        go_wp2_with fail
        go_meet
        have m3 := O.lt
        exact Qdk (n0 := v8.heap.size) O Bv sa oa (by omega) (by omega) (by omega) (by omega)
    . simp only [zG]
      go_simp
      have O := Qba (cs := #[.int .i64 0, .int .i64 0, .int .i64 0, .int .i64 0, .int .i64 0, .slice none 0 0, .slice none 0 0, .slice none 0 0, .slice none 0 0, .int .i64 0, .slice none 0 0, .slice none 0 0, .int .i64 0, .slice none 0 0, .slice none 0 0, .slice none 0 0, .int .i64 0, .slice none 0 0, .slice none 0 0, .slice none 0 0, .int .i64 0, .slice none 0 0, .slice none 0 0, .slice none 0 0, .int .i64 0, .slice none 0 0]) (t := 59) w1 rfl; have hPl := Bv.size; have L := L.below (Qab (Below.refl _ _) (.cells #[.int .i64 0, .int .i64 0, .int .i64 0, .int .i64 0, .int .i64 0, .slice none 0 0, .slice none 0 0, .slice none 0 0, .slice none 0 0, .int .i64 0, .slice none 0 0, .slice none 0 0, .int .i64 0, .slice none 0 0, .slice none 0 0, .slice none 0 0, .int .i64 0, .slice none 0 0, .slice none 0 0, .slice none 0 0, .int .i64 0, .slice none 0 0, .slice none 0 0, .slice none 0 0, .int .i64 0, .slice none 0 0] 59)); have Bv := via0 (Qab (Below.refl _ _) (.cells #[.int .i64 0, .int .i64 0, .int .i64 0, .int .i64 0, .int .i64 0, .slice none 0 0, .slice none 0 0, .slice none 0 0, .slice none 0 0, .int .i64 0, .slice none 0 0, .slice none 0 0, .int .i64 0, .slice none 0 0, .slice none 0 0, .slice none 0 0, .int .i64 0, .slice none 0 0, .slice none 0 0, .slice none 0 0, .int .i64 0, .slice none 0 0, .slice none 0 0, .slice none 0 0, .int .i64 0, .slice none 0 0] 59)) Bv; have oq := oq.below (Qab (Below.refl _ _) (.cells #[.int .i64 0, .int .i64 0, .int .i64 0, .int .i64 0, .int .i64 0, .slice none 0 0, .slice none 0 0, .slice none 0 0, .slice none 0 0, .int .i64 0, .slice none 0 0, .slice none 0 0, .int .i64 0, .slice none 0 0, .slice none 0 0, .slice none 0 0, .int .i64 0, .slice none 0 0, .slice none 0 0, .slice none 0 0, .int .i64 0, .slice none 0 0, .slice none 0 0, .slice none 0 0, .int .i64 0, .slice none 0 0] 59))
      refine hK.out _ _ ⟨L.b2, L.b3⟩ fun hH => ?_; clear hK K; try simp only [zX,zY]
      generalize World.alloc w1 (.cells #[.int .i64 0, .int .i64 0, .int .i64 0, .int .i64 0, .int .i64 0, .slice none 0 0, .slice none 0 0, .slice none 0 0, .slice none 0 0, .int .i64 0, .slice none 0 0, .slice none 0 0, .int .i64 0, .slice none 0 0, .slice none 0 0, .slice none 0 0, .int .i64 0, .slice none 0 0, .slice none 0 0, .slice none 0 0, .int .i64 0, .slice none 0 0, .slice none 0 0, .slice none 0 0, .int .i64 0, .slice none 0 0] 59) = v8 at *
      refine zR1 3 (fun K hK => ?_)
      simp only [zG]
      go_simp
      refine (CR.out _ L.bl).mono ?_; rintro e w2 ⟨v2, rfl, hq, g⟩; obtain ⟨y, rfl, sy, oy⟩ := hq; have L := L.below g; have Bv := via0 g Bv; have oq := oq.below g; have O := O.below g O.lt; have oy := oy.at; clear g
      refine hK.out _ _ ⟨L.b2, L.b3⟩ fun hH => ?_; clear hK K; try simp only [zX,zY]
      refine zR1 4 (fun K hK => ?_)
      simp only [zG]
      go_simp
      refine (CS.out _ q y sq sy oq oy).mono ?_; have m0 := Bv.size; have m2 := O.lt; rintro e w3 ⟨v3, rfl, hq, g⟩; obtain ⟨a, rfl, sa, oa⟩ := hq; have m1 := g.size; have L := L.below g; have Bv := via0 g Bv; have O := O.below g O.lt; clear g
      refine hK.out _ _ ⟨L.b2, L.b3⟩ fun hH => ?_; clear hK K; try simp only [zX,zY]
      refine zt1 5 ?_; refine ztn (h := ?_); try simp only [zX,zY]
      refine zte ?_
      refine zt1 6 ?_; refine ztn (h := ?_); try simp only [zX,zY]
      refine zte ?_
      refine zt1 7 ?_; refine ztn (h := ?_); try simp only [zX,zY]
      refine zte ?_
      refine zR1 9 (fun K hK => ?_)
      simp only [zG]
      rw [if_pos (by rfl)]
      refine wp_store_row 59 _ _ rfl (w1.heap.size) (Qaf a) rfl rfl 59 #[.int .i64 0, .int .i64 0, .int .i64 0, .int .i64 0, .int .i64 0, .slice none 0 0, .slice none 0 0, .slice none 0 0, .slice none 0 0, .int .i64 0, .slice none 0 0, .slice none 0 0, .int .i64 0, .slice none 0 0, .slice none 0 0, .slice none 0 0, .int .i64 0, .slice none 0 0, .slice none 0 0, .slice none 0 0, .int .i64 0, .slice none 0 0, .slice none 0 0, .slice none 0 0, .int .i64 0, .slice none 0 0] O (by kernel_rfl) rfl (Qa5 _) ?_
      have L9 := L.row (P := w1.heap.size) (by have h9 := L.b3.lt; have h8 := Vs.out; omega) (Qaf a)
      refine hK.out _ _ ⟨L9.b2, L9.b3⟩ (fun hH => ?_)
      clear hK K
      try simp only [zX,zY]
      refine zt1 10 ?_; refine ztn (h := ?_); try simp only [zX,zY]
      refine zte ?_
      refine zdn ?_
      go_wp2_with fail
      go_meet
      have m3 := O.lt
      exact Qdk (n0 := w2.heap.size) O Bv sa oa (by omega) (by omega) (by omega) (by omega)
  . simp only [zG]
    go_simp
    have O := Qba (cs := #[.int .i64 0, .int .i64 0, .int .i64 0, .int .i64 0, .int .i64 0, .slice none 0 0, .slice none 0 0, .slice none 0 0, .slice none 0 0, .int .i64 0, .slice none 0 0, .slice none 0 0, .int .i64 0, .slice none 0 0, .slice none 0 0, .slice none 0 0, .int .i64 0, .slice none 0 0, .slice none 0 0, .slice none 0 0, .int .i64 0, .slice none 0 0, .slice none 0 0, .slice none 0 0, .int .i64 0, .slice none 0 0]) (t := 59) u0 rfl; have hPl := Bv.size; have L := L.below (Qab (Below.refl _ _) (.cells #[.int .i64 0, .int .i64 0, .int .i64 0, .int .i64 0, .int .i64 0, .slice none 0 0, .slice none 0 0, .slice none 0 0, .slice none 0 0, .int .i64 0, .slice none 0 0, .slice none 0 0, .int .i64 0, .slice none 0 0, .slice none 0 0, .slice none 0 0, .int .i64 0, .slice none 0 0, .slice none 0 0, .slice none 0 0, .int .i64 0, .slice none 0 0, .slice none 0 0, .slice none 0 0, .int .i64 0, .slice none 0 0] 59)); have Bv := via0 (Qab (Below.refl _ _) (.cells #[.int .i64 0, .int .i64 0, .int .i64 0, .int .i64 0, .int .i64 0, .slice none 0 0, .slice none 0 0, .slice none 0 0, .slice none 0 0, .int .i64 0, .slice none 0 0, .slice none 0 0, .int .i64 0, .slice none 0 0, .slice none 0 0, .slice none 0 0, .int .i64 0, .slice none 0 0, .slice none 0 0, .slice none 0 0, .int .i64 0, .slice none 0 0, .slice none 0 0, .slice none 0 0, .int .i64 0, .slice none 0 0] 59)) Bv
    refine hK.out _ _ ⟨L.b2, L.b3⟩ fun hH => ?_; clear hK K; try simp only [zX,zY]
    generalize World.alloc u0 (.cells #[.int .i64 0, .int .i64 0, .int .i64 0, .int .i64 0, .int .i64 0, .slice none 0 0, .slice none 0 0, .slice none 0 0, .slice none 0 0, .int .i64 0, .slice none 0 0, .slice none 0 0, .int .i64 0, .slice none 0 0, .slice none 0 0, .slice none 0 0, .int .i64 0, .slice none 0 0, .slice none 0 0, .slice none 0 0, .int .i64 0, .slice none 0 0, .slice none 0 0, .slice none 0 0, .int .i64 0, .slice none 0 0] 59) = v8 at *
    refine zR1 1 (fun K hK => ?_)
    simp only [zG]
    go_simp
    refine (CT.out _ L.bl).mono ?_; rintro e w1 ⟨v1, rfl, hq, g⟩; obtain ⟨q, rfl, sq, oq⟩ := hq; have L := L.below g; have Bv := via0 g Bv; have O := O.below g O.lt; have oq := oq.at; clear g
    refine hK.out _ _ ⟨L.b2, L.b3⟩ fun hH => ?_; clear hK K; try simp only [zX,zY]
    refine zR1 3 (fun K hK => ?_)
    simp only [zG]
    go_simp
    refine (CR.out _ L.bl).mono ?_; rintro e w2 ⟨v2, rfl, hq, g⟩; obtain ⟨y, rfl, sy, oy⟩ := hq; have L := L.below g; have Bv := via0 g Bv; have oq := oq.below g; have O := O.below g O.lt; have oy := oy.at; clear g
    refine hK.out _ _ ⟨L.b2, L.b3⟩ fun hH => ?_; clear hK K; try simp only [zX,zY]
    refine zR1 4 (fun K hK => ?_)
    simp only [zG]
    go_simp
    refine (CS.out _ q y sq sy oq oy).mono ?_; have m0 := Bv.size; have m2 := O.lt; rintro e w3 ⟨v3, rfl, hq, g⟩; obtain ⟨a, rfl, sa, oa⟩ := hq; have m1 := g.size; have L := L.below g; have Bv := via0 g Bv; have O := O.below g O.lt; clear g
    refine hK.out _ _ ⟨L.b2, L.b3⟩ fun hH => ?_; clear hK K; try simp only [zX,zY]
    refine zt1 5 ?_; refine ztn (h := ?_); try simp only [zX,zY]
    refine zte ?_
    refine zt1 6 ?_; refine ztn (h := ?_); try simp only [zX,zY]
    refine zte ?_
    refine zt1 7 ?_; refine ztn (h := ?_); try simp only [zX,zY]
    refine zte ?_
    refine zR1 9 (fun K hK => ?_)
    simp only [zG]
    rw [if_pos (by rfl)]
    refine wp_store_row 59 _ _ rfl (u0.heap.size) (Qaf a) rfl rfl 59 #[.int .i64 0, .int .i64 0, .int .i64 0, .int .i64 0, .int .i64 0, .slice none 0 0, .slice none 0 0, .slice none 0 0, .slice none 0 0, .int .i64 0, .slice none 0 0, .slice none 0 0, .int .i64 0, .slice none 0 0, .slice none 0 0, .slice none 0 0, .int .i64 0, .slice none 0 0, .slice none 0 0, .slice none 0 0, .int .i64 0, .slice none 0 0, .slice none 0 0, .slice none 0 0, .int .i64 0, .slice none 0 0] O (by kernel_rfl) rfl (Qa5 _) ?_
    have L9 := L.row (P := u0.heap.size) (by have h9 := L.b3.lt; have h8 := Vs.out; omega) (Qaf a)
    refine hK.out _ _ ⟨L9.b2, L9.b3⟩ (fun hH => ?_)
    clear hK K
    try simp only [zX,zY]
    refine zt1 10 ?_; refine ztn (h := ?_); try simp only [zX,zY]
    refine zte ?_
    refine zdn ?_
    go_wp2_with fail
    go_meet
    have m3 := O.lt
    exact Qdk (n0 := w2.heap.size) O Bv sa oa (by omega) (by omega) (by omega) (by omega)
 case rest =>
  obtain ⟨b6, n0, n1, a, rfl, rfl, O6, sa, oa, hn, gV⟩ := hcut
  have L1 := L.below gV
  have HL := hidP L1
  have HO6 := hidP O6
  have hc6 := hidP O6.lt
  have Hoa := hidP oa
  have Hn := hidP hn
  clear L L1 O6 oa hn gV
  go_upto_region 9 with fail
  refine wp_region_lit ?_
  refine Qag rfl 40 _ rfl (b := w.heap.size) rfl HL.out.b2 Tryz.underlying40 (by kernel_rfl) ?_
  go_wp2_with fail
  refine (CT.out _ HL.out.bl).mono ?_
  rintro e w4 ⟨v4, rfl, ⟨x, rfl, sx, ox⟩, g4⟩
  have O8 := (Blk.new w4 59 #[.int .i64 0, .int .i64 0, .int .i64 0, .int .i64 0, .int .i64 0, .slice none 0 0, .slice none 0 0, .slice none 0 0, .slice none 0 0, .int .i64 0, .slice none 0 0, .slice none 0 0, .int .i64 0, .slice none 0 0, .slice none 0 0, .slice none 0 0, .int .i64 0, .slice none 0 0, .slice none 0 0, .slice none 0 0, .int .i64 0, .slice none 0 0, .slice none 0 0, .slice none 0 0, .int .i64 0, .slice none 0 0]).row (Qaf x)
  have HO := hidP (Blk.new w4 59 #[.int .i64 0, .int .i64 0, .int .i64 0, .int .i64 0, .int .i64 0, .slice none 0 0, .slice none 0 0, .slice none 0 0, .slice none 0 0, .int .i64 0, .slice none 0 0, .slice none 0 0, .int .i64 0, .slice none 0 0, .slice none 0 0, .slice none 0 0, .int .i64 0, .slice none 0 0, .slice none 0 0, .slice none 0 0, .int .i64 0, .slice none 0 0, .slice none 0 0, .slice none 0 0, .int .i64 0, .slice none 0 0])
  have gA : Below w4.heap.size w4 ((w4.alloc (.cells #[.int .i64 0, .int .i64 0, .int .i64 0, .int .i64 0, .int .i64 0, .slice none 0 0, .slice none 0 0, .slice none 0 0, .slice none 0 0, .int .i64 0, .slice none 0 0, .slice none 0 0, .int .i64 0, .slice none 0 0, .slice none 0 0, .slice none 0 0, .int .i64 0, .slice none 0 0, .slice none 0 0, .slice none 0 0, .int .i64 0, .slice none 0 0, .slice none 0 0, .slice none 0 0, .int .i64 0, .slice none 0 0] 59)).setRow w4.heap.size (Qaf x)) := Qbx (Qab (Below.refl _ w4) _) (Nat.le_refl _) _
  have i4 := g4.size
  have i5 := O8.lt
  replace HL := hidP ((HL.out.below g4).below gA)
  replace HO6 := hidP ((HO6.out.below g4 HO6.out.lt).below gA (HO6.out.below g4 HO6.out.lt).lt)
  replace Hoa := hidP ((Hoa.out.below g4).below gA)
  have HO8 := hidP O8
  have Hox := hidP (ox.below gA)
  have Hi4 := hidP i4
  have Hi5 := hidP i5
  clear O8 gA g4 ox i4 i5
  go_upto_region 10 with (refine Qam rfl 59 _ _ rfl (g := w4.heap.size) (cells := Qaf x) rfl rfl HO.out (by kernel_rfl) rfl (Qa5 _) ?_)
  clear HO
  generalize (w4.alloc (.cells #[.int .i64 0, .int .i64 0, .int .i64 0, .int .i64 0, .int .i64 0, .slice none 0 0, .slice none 0 0, .slice none 0 0, .slice none 0 0, .int .i64 0, .slice none 0 0, .slice none 0 0, .int .i64 0, .slice none 0 0, .slice none 0 0, .slice none 0 0, .int .i64 0, .slice none 0 0, .slice none 0 0, .slice none 0 0, .int .i64 0, .slice none 0 0, .slice none 0 0, .slice none 0 0, .int .i64 0, .slice none 0 0] 59)).setRow w4.heap.size (Qaf x) = w5 at *
  refine wp_region_lit ?_
  refine Qag rfl 42 _ rfl (b := w.heap.size + 1) rfl HL.out.b3 Tryz.underlying42 (by kernel_rfl) ?_
  go_wp2_with fail
  refine (CR.out _ HL.out.bl).mono ?_
  rintro e w6 ⟨v6, rfl, ⟨y1, rfl, sy, oy⟩, g6⟩
  have O9 := (Blk.new w6 64 #[.int .i64 0, .int .i64 0, .int .i64 0, .int .i64 0, .int .i64 0, .int .i64 0, .int .i64 0, .slice none 0 0, .bool false, .string ⟨#[]⟩]).row (rpcC y1)
  have HO := hidP (Blk.new w6 64 #[.int .i64 0, .int .i64 0, .int .i64 0, .int .i64 0, .int .i64 0, .int .i64 0, .int .i64 0, .slice none 0 0, .bool false, .string ⟨#[]⟩])
  have gA : Below w6.heap.size w6 ((w6.alloc (.cells #[.int .i64 0, .int .i64 0, .int .i64 0, .int .i64 0, .int .i64 0, .int .i64 0, .int .i64 0, .slice none 0 0, .bool false, .string ⟨#[]⟩] 64)).setRow w6.heap.size (rpcC y1)) := Qbx (Qab (Below.refl _ w6) _) (Nat.le_refl _) _
  have gB := via0 gA g6
  have i6 := g6.size
  have i7 := O9.lt
  replace HL := hidP (HL.out.below gB)
  replace HO6 := hidP (HO6.out.below gB HO6.out.lt)
  replace Hoa := hidP (Hoa.out.below gB)
  replace HO8 := hidP (HO8.out.below gB HO8.out.lt)
  replace Hox := hidP (Hox.out.below gB)
  have HO9 := hidP O9
  have Hoy := hidP (oy.below gA)
  have Hi6 := hidP i6
  have Hi7 := hidP i7
  clear O9 gA gB g6 oy i6 i7
  go_upto_region 11 with (refine Qam rfl 64 _ _ rfl (g := w6.heap.size) (cells := rpcC y1) rfl rfl HO.out (by kernel_rfl) rfl (rpcC_one _) ?_)
  clear HO
  generalize (w6.alloc (.cells #[.int .i64 0, .int .i64 0, .int .i64 0, .int .i64 0, .int .i64 0, .int .i64 0, .int .i64 0, .slice none 0 0, .bool false, .string ⟨#[]⟩] 64)).setRow w6.heap.size (rpcC y1) = w7 at *
  refine wp_region_lit ?_
  refine Qag rfl 59 _ rfl (b := w4.heap.size) rfl HO8.out Tryz.underlying59 (by kernel_rfl) ?_
  refine Qag rfl 64 _ rfl (b := w6.heap.size) rfl HO9.out Tryz.underlying64 (by kernel_rfl) ?_
  go_wp2_with fail
  refine (CI.out _ x y1 sx sy Hox.out.at Hoy.out.at).mono ?_
  rintro e w8 ⟨v8, rfl, ⟨g, rfl, sg, og⟩, g8⟩
  have O10 := (Blk.new w8 59 #[.int .i64 0, .int .i64 0, .int .i64 0, .int .i64 0, .int .i64 0, .slice none 0 0, .slice none 0 0, .slice none 0 0, .slice none 0 0, .int .i64 0, .slice none 0 0, .slice none 0 0, .int .i64 0, .slice none 0 0, .slice none 0 0, .slice none 0 0, .int .i64 0, .slice none 0 0, .slice none 0 0, .slice none 0 0, .int .i64 0, .slice none 0 0, .slice none 0 0, .slice none 0 0, .int .i64 0, .slice none 0 0]).row (Qaf g)
  have HO := hidP (Blk.new w8 59 #[.int .i64 0, .int .i64 0, .int .i64 0, .int .i64 0, .int .i64 0, .slice none 0 0, .slice none 0 0, .slice none 0 0, .slice none 0 0, .int .i64 0, .slice none 0 0, .slice none 0 0, .int .i64 0, .slice none 0 0, .slice none 0 0, .slice none 0 0, .int .i64 0, .slice none 0 0, .slice none 0 0, .slice none 0 0, .int .i64 0, .slice none 0 0, .slice none 0 0, .slice none 0 0, .int .i64 0, .slice none 0 0])
  have gA : Below w8.heap.size w8 ((w8.alloc (.cells #[.int .i64 0, .int .i64 0, .int .i64 0, .int .i64 0, .int .i64 0, .slice none 0 0, .slice none 0 0, .slice none 0 0, .slice none 0 0, .int .i64 0, .slice none 0 0, .slice none 0 0, .int .i64 0, .slice none 0 0, .slice none 0 0, .slice none 0 0, .int .i64 0, .slice none 0 0, .slice none 0 0, .slice none 0 0, .int .i64 0, .slice none 0 0, .slice none 0 0, .slice none 0 0, .int .i64 0, .slice none 0 0] 59)).setRow w8.heap.size (Qaf g)) := Qbx (Qab (Below.refl _ w8) _) (Nat.le_refl _) _
  have gB := via0 gA g8
  have i8 := g8.size
  have K : St w ((w8.alloc (.cells #[.int .i64 0, .int .i64 0, .int .i64 0, .int .i64 0, .int .i64 0, .slice none 0 0, .slice none 0 0, .slice none 0 0, .slice none 0 0, .int .i64 0, .slice none 0 0, .slice none 0 0, .int .i64 0, .slice none 0 0, .slice none 0 0, .slice none 0 0, .int .i64 0, .slice none 0 0, .slice none 0 0, .slice none 0 0, .int .i64 0, .slice none 0 0, .slice none 0 0, .slice none 0 0, .int .i64 0, .slice none 0 0] 59)).setRow w8.heap.size (Qaf g)) p r b6 n0 n1 wc.heap.size w4.heap.size w5.heap.size w6.heap.size w7.heap.size w8.heap.size a x g g y1 := ⟨HL.out.below gB, HO6.out.below gB HO6.out.lt, Hoa.out.below gB, HO8.out.below gB HO8.out.lt, HO9.out.below gB HO9.out.lt, O10, og.below gA, by
   have j1 := Hn.out; have j2 := hc6.out; have j3 := Vs.out; have j4 := Hi4.out; have j5 := Hi5.out; have j6 := Hi6.out; have j7 := Hi7.out; omega⟩
  have Hox' := hidP (show POwn _ x (Iv wc.heap.size w4.heap.size) from Hox.out.below gB)
  have Hoy' := hidP (show Sub _ y1.A y1.l (Iv w5.heap.size w6.heap.size) from Hoy.out.below gB)
  have HK := hidP K
  have HSa := hidP sa
  have HSx := hidP sx
  have HSy := hidP sy
  have HSg := hidP sg
  clear K O10 gA gB og g8 i8 HL HO6 Hoa HO8 HO9 Hox Hoy Hn hc6 Hi4 Hi5 Hi6 Hi7 sa sx sy sg
  go_upto_region 12 with (refine Qam rfl 59 _ _ rfl (g := w8.heap.size) (cells := Qaf g) rfl rfl HO.out (by kernel_rfl) rfl (Qa5 _) ?_)
  clear HO
  generalize (w8.alloc (.cells #[.int .i64 0, .int .i64 0, .int .i64 0, .int .i64 0, .int .i64 0, .slice none 0 0, .slice none 0 0, .slice none 0 0, .slice none 0 0, .int .i64 0, .slice none 0 0, .slice none 0 0, .int .i64 0, .slice none 0 0, .slice none 0 0, .slice none 0 0, .int .i64 0, .slice none 0 0, .slice none 0 0, .slice none 0 0, .int .i64 0, .slice none 0 0, .slice none 0 0, .slice none 0 0, .int .i64 0, .slice none 0 0] 59)).setRow w8.heap.size (Qaf g) = w9 at *
  generalize wc.heap.size = n2 at *
  generalize w4.heap.size = n3 at *
  generalize w5.heap.size = n4 at *
  generalize w6.heap.size = n5 at *
  generalize w7.heap.size = n6 at *
  generalize w8.heap.size = n7 at *
  refine wp_region_lit ?_
  refine Qag rfl 59 _ rfl (b := n7) rfl HK.out.o10 Tryz.underlying59 (by kernel_rfl) ?_
  refine Qag rfl 59 _ rfl (b := b6) rfl HK.out.o6 Tryz.underlying59 (by kernel_rfl) ?_
  go_wp2_with fail
  refine (eqQ FT.out HSg.out HSa.out HK.out.og.at HK.out.oa.at).mono ?_
  rintro e w10 ⟨rfl, g10⟩
  replace HK := hidP (HK.out.below g10)
  replace Hox' := hidP (Hox'.out.below g10)
  replace Hoy' := hidP (Hoy'.out.below g10)
  clear g10
  go_upto_region 14 with fail
  refine wp_region_noPanic ?_
  refine wp_region_held_drew (S := (fun (W : World) => Blk W n3 59 (Qaf x) /\ Blk W (w.heap.size) 40 (Qaf p))) (by kernel_rfl) ?_ (fun hH => ?_)
  . exact ⟨HK.out.o8, HK.out.l.b2⟩
  have g := (Below.refl w10.heap.size w10).drew
  replace HK := hidP (HK.out.below g); replace Hox' := hidP (Hox'.out.below g); replace Hoy' := hidP (Hoy'.out.below g); clear g
  generalize w10.drew = u14 at *
  refine zt1 0 ?_; refine ztn (hy := fun w' hSw => Qa4 rfl rfl hSw.1 Tryz.underlying59 (by kernel_rfl)) (h := ?_); try simp only [zX,zY]
  refine zte ?_
  refine zt1 1 ?_; refine ztn (hy := fun w' hSw => Qa4 rfl rfl hSw.2 Tryz.underlying40 (by kernel_rfl)) (h := ?_); try simp only [zX,zY]
  refine zte ?_
  refine zR1 2 (fun K hK => ?_)
  simp only [zG]
  go_simp
  refine (CT.out _ HK.out.l.bl).mono ?_
  rintro e w14a ⟨v14, rfl, ⟨x2, rfl, sx2, ox2⟩, g⟩
  replace HK := hidP (HK.out.below g); replace Hox' := hidP (Hox'.out.below g); replace Hoy' := hidP (Hoy'.out.below g); clear g
  have A2 := hidP ox2.at; clear ox2
  refine hK.out _ _ ⟨HK.out.o8, HK.out.l.b2⟩ fun hH => ?_; clear hK K; try simp only [zX,zY]
  refine zR1 3 (fun K hK => ?_)
  simp only [zG]
  go_simp
  refine (eqQ HF.out HSx.out sx2 Hox'.out.at A2.out).mono ?_
  rintro e w14b ⟨rfl, g⟩
  replace HK := hidP (HK.out.below g); replace Hox' := hidP (Hox'.out.below g); replace Hoy' := hidP (Hoy'.out.below g); clear g
  refine hK.out _ _ ⟨HK.out.o8, HK.out.l.b2⟩ fun hH => ?_; clear hK K; try simp only [zX,zY]
  refine zt1 4 ?_; refine ztn (h := ?_); try simp only [zX,zY]
  refine zte ?_
  refine zdn ?_
  clear hH
  clear A2 sx2
  go_upto_region 16 with fail
  refine wp_region_noPanic ?_
  refine wp_region_held_drew (S := (fun (W : World) => Blk W n5 64 (rpcC y1) /\ Blk W (w.heap.size + 1) 42 (rpcC r))) (by kernel_rfl) ?_ (fun hH => ?_)
  . exact ⟨HK.out.o9, HK.out.l.b3⟩
  have g := (Below.refl w14b.heap.size w14b).drew
  replace HK := hidP (HK.out.below g); replace Hox' := hidP (Hox'.out.below g); replace Hoy' := hidP (Hoy'.out.below g); clear g
  generalize w14b.drew = u16 at *
  refine zt1 0 ?_; refine ztn (hy := fun w' hSw => Qa4 rfl rfl hSw.1 Tryz.underlying64 (by kernel_rfl)) (h := ?_); try simp only [zX,zY]
  refine zte ?_
  refine zt1 1 ?_; refine ztn (hy := fun w' hSw => Qa4 rfl rfl hSw.2 Tryz.underlying42 (by kernel_rfl)) (h := ?_); try simp only [zX,zY]
  refine zte ?_
  refine zR1 2 (fun K hK => ?_)
  simp only [zG]
  go_simp
  refine (CR.out _ HK.out.l.bl).mono ?_
  rintro e w16a ⟨v16, rfl, ⟨y2, rfl, sy2, oy2⟩, g⟩
  replace HK := hidP (HK.out.below g); replace Hox' := hidP (Hox'.out.below g); replace Hoy' := hidP (Hoy'.out.below g); clear g
  have B2 := hidP oy2.at; clear oy2
  refine hK.out _ _ ⟨HK.out.o9, HK.out.l.b3⟩ fun hH => ?_; clear hK K; try simp only [zX,zY]
  refine zR1 3 (fun K hK => ?_)
  simp only [zG]
  go_simp
  refine (eqR hl HSy.out sy2 Hoy'.out.at B2.out).mono ?_
  rintro e w16b ⟨rfl, g⟩
  replace HK := hidP (HK.out.below g); replace Hox' := hidP (Hox'.out.below g); replace Hoy' := hidP (Hoy'.out.below g); clear g
  refine hK.out _ _ ⟨HK.out.o9, HK.out.l.b3⟩ fun hH => ?_; clear hK K; try simp only [zX,zY]
  refine zt1 4 ?_; refine ztn (h := ?_); try simp only [zX,zY]
  refine zte ?_
  refine zdn ?_
  clear hH
  clear B2 sy2
  go_upto_region 19 with fail
  refine wp_region_lit ?_
  refine Qag rfl 59 _ rfl (b := n3) rfl HK.out.o8 Tryz.underlying59 (by kernel_rfl) ?_
  go_wp2_with fail
  refine (markQ (HF.out.same HSx.out) (fun z hz => Nat.lt_trans hz.2 HK.out.o8.lt) Hox'.out).mono ?_
  rintro e w19 ⟨rfl, k, _⟩
  replace HK := hidP (HK.out.offX (fun z e => .inl e) k)
  replace Hoy' := hidP (Hoy'.out.offp k (fun z hz e => by have h1 := hz.1; have h2 := e.2; have h3 := HK.out.ne; omega))
  have hkz : Hid (1 <= pz7 x /\ pz7 x <= 10000000) := hidP (pz_le (HF.out.same HSx.out)).2.2.2.2.2.2.1
  have hyl : Hid (y1.l.length <= 1048576) := hidP (by have := congrArg RpP.l HSy.out; simp only [RpC.p] at this; rw [this]; exact hl)
  generalize pz7 x = kz at *
  clear k Hox'
  go_upto_region 20 with fail
  refine wp_region_lit ?_
  refine Qag rfl 64 _ rfl (b := n5) rfl HK.out.o9 Tryz.underlying64 (by kernel_rfl) ?_
  go_wp2_with fail
  refine (markR hyl.out kz hkz.out.1 (by have := hkz.out; omega) Hoy'.out).mono ?_
  rintro e w20 ⟨rfl, k⟩
  replace HK := hidP (HK.out.offX (fun z e => .inr e) k)
  have hkk : 0 <= kz + (y1.l.length : Int) * 9 := by have := hkz.out; omega
  generalize kz + (y1.l.length : Int) * 9 = kk at *
  have nk : ¬ kk < 0 := by omega
  clear k Hoy' hkz hyl
  go_upto_region 21 with fail
  refine wp_region_lit ?_
  iterate 9 go_step
  have hd : decide (kk < 0) = false := decide_eq_false (by omega)
  simp only [hd]
  refine Qde (by rfl) 59 _ rfl (b := n7) rfl HK.out.o10 Tryz.underlying59 (by kernel_rfl) ?_
  refine Qde (by rfl) 59 _ rfl (b := b6) rfl HK.out.o6 Tryz.underlying59 (by kernel_rfl) ?_
  go_wp2_with fail
  refine (eqQ FT.out HSg.out HSa.out HK.out.og.at HK.out.oa.at).mono ?_
  rintro e w21 ⟨rfl, g⟩
  replace HK := hidP (HK.out.below g)
  clear g
  go_upto_region 24 with fail
  clear nk hkk
  refine wp_region_lit ?_
  refine Qag rfl 59 _ rfl (b := n7) rfl HK.out.o10 Tryz.underlying59 (by kernel_rfl) ?_
  go_wp2_with fail
  refine (markQ (FT.out.same HSg.out) (fun z hz => Nat.lt_trans hz.2 HK.out.o10.lt) HK.out.og).mono ?_
  rintro e w24 ⟨rfl, k, og2⟩
  replace HK := hidP (HK.out.offG k og2)
  have hmg : Hid (1 <= pz7 g /\ pz7 g <= 10000000) := hidP (pz_le (FT.out.same HSg.out)).2.2.2.2.2.2.1
  have HH : Hid (∀ W : World, POwn W (mPe g) (Iv n6 n7) -> Calls Tryz.prog 14 #[.agg (Qaf g), .int .i64 1] W fun e w' => e = .returned (.int .i64 (pz7 g)) /\ Below W.heap.size W w') := hidP (fun W h => heldQ (FT.out.same HSg.out) h)
  clear k og2
  generalize pz7 g = mg at *
  have ng : ¬ mg < 0 := by have := hmg.out; omega
  clear hmg
  go_upto_region 26 with fail
  refine wp_region_lit ?_
  refine Qag rfl 59 _ rfl (b := n7) rfl HK.out.o10 Tryz.underlying59 (by kernel_rfl) ?_
  go_wp2_with fail
  refine (HH.out _ HK.out.og).mono ?_
  rintro e w26 ⟨rfl, g'⟩
  replace HK := hidP (HK.out.below g')
  clear g'
  go_upto_region 31 with fail
  have L := HK.out.l
  replace Vs : Hid (w.heap.size + 1 < w26.heap.size) := hidP L.b3.lt
  go_cut [15, 16] from 94 to 101 (fun s6 s7 wx => Cut w26 wx p r D s6 s7)
  case first =>
   refine wp_region_noPanic ?_
   refine wp_region_held_drew (S := (fun (W : World) => Blk W w.heap.size 40 (Qaf p) /\ Blk W (w.heap.size + 1) 42 (rpcC r))) (by kernel_rfl) ?_ (fun hH => ?_)
   . exact ⟨L.b2, L.b3⟩
   have Bv : Below w26.heap.size w26 w26.drew := (Below.refl _ _).drew
   have L := L.below (Below.refl _ _).drew
   generalize w26.drew = u0 at *
   refine zt1 0 ?_; refine ztn (hy := fun w' hSw => Qa4 rfl rfl hSw.1 Tryz.underlying40 (by kernel_rfl)) (h := ?_); try simp only [zX,zY]
   refine zte ?_
   refine zt1 2 ?_; refine ztn (hy := fun w' hSw => Qa4 rfl rfl hSw.2 Tryz.underlying42 (by kernel_rfl)) (h := ?_); try simp only [zX,zY]
   refine zte ?_
   refine zR2 1 8 (fun K hK => ?_) (fun K hK => ?_)
   . simp only [zG]
     go_simp
     refine (CT.out _ L.bl).mono ?_; rintro e w1 ⟨v1, rfl, hq, g⟩; obtain ⟨q, rfl, sq, oq⟩ := hq; have L := L.below g; have Bv := via0 g Bv; have oq := oq.at; clear g
     refine hK.out _ _ ⟨L.b2, L.b3⟩ fun hH => ?_; clear hK K; try simp only [zX,zY]
     refine zR2 3 8 (fun K hK => ?_) (fun K hK => ?_)
     . simp only [zG]
       go_simp
       refine (CR.out _ L.bl).mono ?_; rintro e w2 ⟨v2, rfl, hq, g⟩; obtain ⟨y, rfl, sy, oy⟩ := hq; have L := L.below g; have Bv := via0 g Bv; have oq := oq.below g; have oy := oy.at; clear g
       refine hK.out _ _ ⟨L.b2, L.b3⟩ fun hH => ?_; clear hK K; try simp only [zX,zY]
       refine zR2 4 8 (fun K hK => ?_) (fun K hK => ?_)
       . simp only [zG]
         go_simp
         refine (CI.out _ q y sq sy oq oy).mono ?_; have m0 := Bv.size; rintro e w3 ⟨v3, rfl, hq, g⟩; obtain ⟨a, rfl, sa, oa⟩ := hq; have m1 := g.size; have L := L.below g; have Bv := via0 g Bv; clear g
         refine hK.out _ _ ⟨L.b2, L.b3⟩ fun hH => ?_; clear hK K; try simp only [zX,zY]
         refine zt1 5 ?_; refine ztn (h := ?_); try simp only [zX,zY]
         refine zte ?_
         refine zt1 6 ?_; refine ztn (h := ?_); try simp only [zX,zY]
         refine zte ?_
         refine zt1 7 ?_; refine ztn (h := ?_); try simp only [zX,zY]
         refine zte ?_
         refine zR1 8 (fun K hK => ?_)
         simp only [zG]
         go_simp
         have O := Qba (cs := #[.int .i64 0, .int .i64 0, .int .i64 0, .int .i64 0, .int .i64 0, .slice none 0 0, .slice none 0 0, .slice none 0 0, .slice none 0 0, .int .i64 0, .slice none 0 0, .slice none 0 0, .int .i64 0, .slice none 0 0, .slice none 0 0, .slice none 0 0, .int .i64 0, .slice none 0 0, .slice none 0 0, .slice none 0 0, .int .i64 0, .slice none 0 0, .slice none 0 0, .slice none 0 0, .int .i64 0, .slice none 0 0]) (t := 59) w3 rfl; have hPl := Bv.size; have L := L.below (Qab (Below.refl _ _) (.cells #[.int .i64 0, .int .i64 0, .int .i64 0, .int .i64 0, .int .i64 0, .slice none 0 0, .slice none 0 0, .slice none 0 0, .slice none 0 0, .int .i64 0, .slice none 0 0, .slice none 0 0, .int .i64 0, .slice none 0 0, .slice none 0 0, .slice none 0 0, .int .i64 0, .slice none 0 0, .slice none 0 0, .slice none 0 0, .int .i64 0, .slice none 0 0, .slice none 0 0, .slice none 0 0, .int .i64 0, .slice none 0 0] 59)); have Bv := via0 (Qab (Below.refl _ _) (.cells #[.int .i64 0, .int .i64 0, .int .i64 0, .int .i64 0, .int .i64 0, .slice none 0 0, .slice none 0 0, .slice none 0 0, .slice none 0 0, .int .i64 0, .slice none 0 0, .slice none 0 0, .int .i64 0, .slice none 0 0, .slice none 0 0, .slice none 0 0, .int .i64 0, .slice none 0 0, .slice none 0 0, .slice none 0 0, .int .i64 0, .slice none 0 0, .slice none 0 0, .slice none 0 0, .int .i64 0, .slice none 0 0] 59)) Bv; have oa := oa.below (Qab (Below.refl _ _) (.cells #[.int .i64 0, .int .i64 0, .int .i64 0, .int .i64 0, .int .i64 0, .slice none 0 0, .slice none 0 0, .slice none 0 0, .slice none 0 0, .int .i64 0, .slice none 0 0, .slice none 0 0, .int .i64 0, .slice none 0 0, .slice none 0 0, .slice none 0 0, .int .i64 0, .slice none 0 0, .slice none 0 0, .slice none 0 0, .int .i64 0, .slice none 0 0, .slice none 0 0, .slice none 0 0, .int .i64 0, .slice none 0 0] 59))
         refine hK.out _ _ ⟨L.b2, L.b3⟩ fun hH => ?_; clear hK K; try simp only [zX,zY]
         generalize World.alloc w3 (.cells #[.int .i64 0, .int .i64 0, .int .i64 0, .int .i64 0, .int .i64 0, .slice none 0 0, .slice none 0 0, .slice none 0 0, .slice none 0 0, .int .i64 0, .slice none 0 0, .slice none 0 0, .int .i64 0, .slice none 0 0, .slice none 0 0, .slice none 0 0, .int .i64 0, .slice none 0 0, .slice none 0 0, .slice none 0 0, .int .i64 0, .slice none 0 0, .slice none 0 0, .slice none 0 0, .int .i64 0, .slice none 0 0] 59) = v8 at *
         refine zR1 9 (fun K hK => ?_)
         simp only [zG]
         rw [if_pos (by rfl)]
         refine wp_store_row 59 _ _ rfl (w3.heap.size) (Qaf a) rfl rfl 59 #[.int .i64 0, .int .i64 0, .int .i64 0, .int .i64 0, .int .i64 0, .slice none 0 0, .slice none 0 0, .slice none 0 0, .slice none 0 0, .int .i64 0, .slice none 0 0, .slice none 0 0, .int .i64 0, .slice none 0 0, .slice none 0 0, .slice none 0 0, .int .i64 0, .slice none 0 0, .slice none 0 0, .slice none 0 0, .int .i64 0, .slice none 0 0, .slice none 0 0, .slice none 0 0, .int .i64 0, .slice none 0 0] O (by kernel_rfl) rfl (Qa5 _) ?_
         have L9 := L.row (P := w3.heap.size) (by have h9 := L.b3.lt; have h8 := Vs.out; omega) (Qaf a)
         refine hK.out _ _ ⟨L9.b2, L9.b3⟩ (fun hH => ?_)
         clear hK K
         try simp only [zX,zY]
         refine zt1 10 ?_; refine ztn (h := ?_); try simp only [zX,zY]
         refine zte ?_
         refine zdn ?_
         go_wp2_with fail
         go_meet
         have m3 := O.lt
         exact Qdk (n0 := w2.heap.size) O Bv sa oa (by omega) (by omega) (by omega) (by omega)
       . simp only [zG]
         go_simp
         have O := Qba (cs := #[.int .i64 0, .int .i64 0, .int .i64 0, .int .i64 0, .int .i64 0, .slice none 0 0, .slice none 0 0, .slice none 0 0, .slice none 0 0, .int .i64 0, .slice none 0 0, .slice none 0 0, .int .i64 0, .slice none 0 0, .slice none 0 0, .slice none 0 0, .int .i64 0, .slice none 0 0, .slice none 0 0, .slice none 0 0, .int .i64 0, .slice none 0 0, .slice none 0 0, .slice none 0 0, .int .i64 0, .slice none 0 0]) (t := 59) w2 rfl; have hPl := Bv.size; have L := L.below (Qab (Below.refl _ _) (.cells #[.int .i64 0, .int .i64 0, .int .i64 0, .int .i64 0, .int .i64 0, .slice none 0 0, .slice none 0 0, .slice none 0 0, .slice none 0 0, .int .i64 0, .slice none 0 0, .slice none 0 0, .int .i64 0, .slice none 0 0, .slice none 0 0, .slice none 0 0, .int .i64 0, .slice none 0 0, .slice none 0 0, .slice none 0 0, .int .i64 0, .slice none 0 0, .slice none 0 0, .slice none 0 0, .int .i64 0, .slice none 0 0] 59)); have Bv := via0 (Qab (Below.refl _ _) (.cells #[.int .i64 0, .int .i64 0, .int .i64 0, .int .i64 0, .int .i64 0, .slice none 0 0, .slice none 0 0, .slice none 0 0, .slice none 0 0, .int .i64 0, .slice none 0 0, .slice none 0 0, .int .i64 0, .slice none 0 0, .slice none 0 0, .slice none 0 0, .int .i64 0, .slice none 0 0, .slice none 0 0, .slice none 0 0, .int .i64 0, .slice none 0 0, .slice none 0 0, .slice none 0 0, .int .i64 0, .slice none 0 0] 59)) Bv; have oq := oq.below (Qab (Below.refl _ _) (.cells #[.int .i64 0, .int .i64 0, .int .i64 0, .int .i64 0, .int .i64 0, .slice none 0 0, .slice none 0 0, .slice none 0 0, .slice none 0 0, .int .i64 0, .slice none 0 0, .slice none 0 0, .int .i64 0, .slice none 0 0, .slice none 0 0, .slice none 0 0, .int .i64 0, .slice none 0 0, .slice none 0 0, .slice none 0 0, .int .i64 0, .slice none 0 0, .slice none 0 0, .slice none 0 0, .int .i64 0, .slice none 0 0] 59)); have oy := oy.below (Qab (Below.refl _ _) (.cells #[.int .i64 0, .int .i64 0, .int .i64 0, .int .i64 0, .int .i64 0, .slice none 0 0, .slice none 0 0, .slice none 0 0, .slice none 0 0, .int .i64 0, .slice none 0 0, .slice none 0 0, .int .i64 0, .slice none 0 0, .slice none 0 0, .slice none 0 0, .int .i64 0, .slice none 0 0, .slice none 0 0, .slice none 0 0, .int .i64 0, .slice none 0 0, .slice none 0 0, .slice none 0 0, .int .i64 0, .slice none 0 0] 59))
         refine hK.out _ _ ⟨L.b2, L.b3⟩ fun hH => ?_; clear hK K; try simp only [zX,zY]
         generalize World.alloc w2 (.cells #[.int .i64 0, .int .i64 0, .int .i64 0, .int .i64 0, .int .i64 0, .slice none 0 0, .slice none 0 0, .slice none 0 0, .slice none 0 0, .int .i64 0, .slice none 0 0, .slice none 0 0, .int .i64 0, .slice none 0 0, .slice none 0 0, .slice none 0 0, .int .i64 0, .slice none 0 0, .slice none 0 0, .slice none 0 0, .int .i64 0, .slice none 0 0, .slice none 0 0, .slice none 0 0, .int .i64 0, .slice none 0 0] 59) = v8 at *
         refine zR1 4 (fun K hK => ?_)
         simp only [zG]
         go_simp
         refine (CI.out _ q y sq sy oq oy).mono ?_; have m0 := Bv.size; have m2 := O.lt; rintro e w3 ⟨v3, rfl, hq, g⟩; obtain ⟨a, rfl, sa, oa⟩ := hq; have m1 := g.size; have L := L.below g; have Bv := via0 g Bv; have O := O.below g O.lt; clear g
         refine hK.out _ _ ⟨L.b2, L.b3⟩ fun hH => ?_; clear hK K; try simp only [zX,zY]
         refine zt1 5 ?_; refine ztn (h := ?_); try simp only [zX,zY]
         refine zte ?_
         refine zt1 6 ?_; refine ztn (h := ?_); try simp only [zX,zY]
         refine zte ?_
         refine zt1 7 ?_; refine ztn (h := ?_); try simp only [zX,zY]
         refine zte ?_
         refine zR1 9 (fun K hK => ?_)
         simp only [zG]
         rw [if_pos (by rfl)]
         refine wp_store_row 59 _ _ rfl (w2.heap.size) (Qaf a) rfl rfl 59 #[.int .i64 0, .int .i64 0, .int .i64 0, .int .i64 0, .int .i64 0, .slice none 0 0, .slice none 0 0, .slice none 0 0, .slice none 0 0, .int .i64 0, .slice none 0 0, .slice none 0 0, .int .i64 0, .slice none 0 0, .slice none 0 0, .slice none 0 0, .int .i64 0, .slice none 0 0, .slice none 0 0, .slice none 0 0, .int .i64 0, .slice none 0 0, .slice none 0 0, .slice none 0 0, .int .i64 0, .slice none 0 0] O (by kernel_rfl) rfl (Qa5 _) ?_
         have L9 := L.row (P := w2.heap.size) (by have h9 := L.b3.lt; have h8 := Vs.out; omega) (Qaf a)
         refine hK.out _ _ ⟨L9.b2, L9.b3⟩ (fun hH => ?_)
         clear hK K
         try simp only [zX,zY]
         refine zt1 10 ?_; refine ztn (h := ?_); try simp only [zX,zY]
         refine zte ?_
         refine zdn ?_
         go_wp2_with fail
         go_meet
         have m3 := O.lt
         exact Qdk (n0 := v8.heap.size) O Bv sa oa (by omega) (by omega) (by omega) (by omega)
     . simp only [zG]
       go_simp
       have O := Qba (cs := #[.int .i64 0, .int .i64 0, .int .i64 0, .int .i64 0, .int .i64 0, .slice none 0 0, .slice none 0 0, .slice none 0 0, .slice none 0 0, .int .i64 0, .slice none 0 0, .slice none 0 0, .int .i64 0, .slice none 0 0, .slice none 0 0, .slice none 0 0, .int .i64 0, .slice none 0 0, .slice none 0 0, .slice none 0 0, .int .i64 0, .slice none 0 0, .slice none 0 0, .slice none 0 0, .int .i64 0, .slice none 0 0]) (t := 59) w1 rfl; have hPl := Bv.size; have L := L.below (Qab (Below.refl _ _) (.cells #[.int .i64 0, .int .i64 0, .int .i64 0, .int .i64 0, .int .i64 0, .slice none 0 0, .slice none 0 0, .slice none 0 0, .slice none 0 0, .int .i64 0, .slice none 0 0, .slice none 0 0, .int .i64 0, .slice none 0 0, .slice none 0 0, .slice none 0 0, .int .i64 0, .slice none 0 0, .slice none 0 0, .slice none 0 0, .int .i64 0, .slice none 0 0, .slice none 0 0, .slice none 0 0, .int .i64 0, .slice none 0 0] 59)); have Bv := via0 (Qab (Below.refl _ _) (.cells #[.int .i64 0, .int .i64 0, .int .i64 0, .int .i64 0, .int .i64 0, .slice none 0 0, .slice none 0 0, .slice none 0 0, .slice none 0 0, .int .i64 0, .slice none 0 0, .slice none 0 0, .int .i64 0, .slice none 0 0, .slice none 0 0, .slice none 0 0, .int .i64 0, .slice none 0 0, .slice none 0 0, .slice none 0 0, .int .i64 0, .slice none 0 0, .slice none 0 0, .slice none 0 0, .int .i64 0, .slice none 0 0] 59)) Bv; have oq := oq.below (Qab (Below.refl _ _) (.cells #[.int .i64 0, .int .i64 0, .int .i64 0, .int .i64 0, .int .i64 0, .slice none 0 0, .slice none 0 0, .slice none 0 0, .slice none 0 0, .int .i64 0, .slice none 0 0, .slice none 0 0, .int .i64 0, .slice none 0 0, .slice none 0 0, .slice none 0 0, .int .i64 0, .slice none 0 0, .slice none 0 0, .slice none 0 0, .int .i64 0, .slice none 0 0, .slice none 0 0, .slice none 0 0, .int .i64 0, .slice none 0 0] 59))
       refine hK.out _ _ ⟨L.b2, L.b3⟩ fun hH => ?_; clear hK K; try simp only [zX,zY]
       generalize World.alloc w1 (.cells #[.int .i64 0, .int .i64 0, .int .i64 0, .int .i64 0, .int .i64 0, .slice none 0 0, .slice none 0 0, .slice none 0 0, .slice none 0 0, .int .i64 0, .slice none 0 0, .slice none 0 0, .int .i64 0, .slice none 0 0, .slice none 0 0, .slice none 0 0, .int .i64 0, .slice none 0 0, .slice none 0 0, .slice none 0 0, .int .i64 0, .slice none 0 0, .slice none 0 0, .slice none 0 0, .int .i64 0, .slice none 0 0] 59) = v8 at *
       refine zR1 3 (fun K hK => ?_)
       simp only [zG]
       go_simp
       refine (CR.out _ L.bl).mono ?_; rintro e w2 ⟨v2, rfl, hq, g⟩; obtain ⟨y, rfl, sy, oy⟩ := hq; have L := L.below g; have Bv := via0 g Bv; have oq := oq.below g; have O := O.below g O.lt; have oy := oy.at; clear g
       refine hK.out _ _ ⟨L.b2, L.b3⟩ fun hH => ?_; clear hK K; try simp only [zX,zY]
       refine zR1 4 (fun K hK => ?_)
       simp only [zG]
       go_simp
       refine (CI.out _ q y sq sy oq oy).mono ?_; have m0 := Bv.size; have m2 := O.lt; rintro e w3 ⟨v3, rfl, hq, g⟩; obtain ⟨a, rfl, sa, oa⟩ := hq; have m1 := g.size; have L := L.below g; have Bv := via0 g Bv; have O := O.below g O.lt; clear g
       refine hK.out _ _ ⟨L.b2, L.b3⟩ fun hH => ?_; clear hK K; try simp only [zX,zY]
       refine zt1 5 ?_; refine ztn (h := ?_); try simp only [zX,zY]
       refine zte ?_
       refine zt1 6 ?_; refine ztn (h := ?_); try simp only [zX,zY]
       refine zte ?_
       refine zt1 7 ?_; refine ztn (h := ?_); try simp only [zX,zY]
       refine zte ?_
       refine zR1 9 (fun K hK => ?_)
       simp only [zG]
       rw [if_pos (by rfl)]
       refine wp_store_row 59 _ _ rfl (w1.heap.size) (Qaf a) rfl rfl 59 #[.int .i64 0, .int .i64 0, .int .i64 0, .int .i64 0, .int .i64 0, .slice none 0 0, .slice none 0 0, .slice none 0 0, .slice none 0 0, .int .i64 0, .slice none 0 0, .slice none 0 0, .int .i64 0, .slice none 0 0, .slice none 0 0, .slice none 0 0, .int .i64 0, .slice none 0 0, .slice none 0 0, .slice none 0 0, .int .i64 0, .slice none 0 0, .slice none 0 0, .slice none 0 0, .int .i64 0, .slice none 0 0] O (by kernel_rfl) rfl (Qa5 _) ?_
       have L9 := L.row (P := w1.heap.size) (by have h9 := L.b3.lt; have h8 := Vs.out; omega) (Qaf a)
       refine hK.out _ _ ⟨L9.b2, L9.b3⟩ (fun hH => ?_)
       clear hK K
       try simp only [zX,zY]
       refine zt1 10 ?_; refine ztn (h := ?_); try simp only [zX,zY]
       refine zte ?_
       refine zdn ?_
       go_wp2_with fail
       go_meet
       have m3 := O.lt
       exact Qdk (n0 := w2.heap.size) O Bv sa oa (by omega) (by omega) (by omega) (by omega)
   . simp only [zG]
     go_simp
     have O := Qba (cs := #[.int .i64 0, .int .i64 0, .int .i64 0, .int .i64 0, .int .i64 0, .slice none 0 0, .slice none 0 0, .slice none 0 0, .slice none 0 0, .int .i64 0, .slice none 0 0, .slice none 0 0, .int .i64 0, .slice none 0 0, .slice none 0 0, .slice none 0 0, .int .i64 0, .slice none 0 0, .slice none 0 0, .slice none 0 0, .int .i64 0, .slice none 0 0, .slice none 0 0, .slice none 0 0, .int .i64 0, .slice none 0 0]) (t := 59) u0 rfl; have hPl := Bv.size; have L := L.below (Qab (Below.refl _ _) (.cells #[.int .i64 0, .int .i64 0, .int .i64 0, .int .i64 0, .int .i64 0, .slice none 0 0, .slice none 0 0, .slice none 0 0, .slice none 0 0, .int .i64 0, .slice none 0 0, .slice none 0 0, .int .i64 0, .slice none 0 0, .slice none 0 0, .slice none 0 0, .int .i64 0, .slice none 0 0, .slice none 0 0, .slice none 0 0, .int .i64 0, .slice none 0 0, .slice none 0 0, .slice none 0 0, .int .i64 0, .slice none 0 0] 59)); have Bv := via0 (Qab (Below.refl _ _) (.cells #[.int .i64 0, .int .i64 0, .int .i64 0, .int .i64 0, .int .i64 0, .slice none 0 0, .slice none 0 0, .slice none 0 0, .slice none 0 0, .int .i64 0, .slice none 0 0, .slice none 0 0, .int .i64 0, .slice none 0 0, .slice none 0 0, .slice none 0 0, .int .i64 0, .slice none 0 0, .slice none 0 0, .slice none 0 0, .int .i64 0, .slice none 0 0, .slice none 0 0, .slice none 0 0, .int .i64 0, .slice none 0 0] 59)) Bv
     refine hK.out _ _ ⟨L.b2, L.b3⟩ fun hH => ?_; clear hK K; try simp only [zX,zY]
     generalize World.alloc u0 (.cells #[.int .i64 0, .int .i64 0, .int .i64 0, .int .i64 0, .int .i64 0, .slice none 0 0, .slice none 0 0, .slice none 0 0, .slice none 0 0, .int .i64 0, .slice none 0 0, .slice none 0 0, .int .i64 0, .slice none 0 0, .slice none 0 0, .slice none 0 0, .int .i64 0, .slice none 0 0, .slice none 0 0, .slice none 0 0, .int .i64 0, .slice none 0 0, .slice none 0 0, .slice none 0 0, .int .i64 0, .slice none 0 0] 59) = v8 at *
     refine zR1 1 (fun K hK => ?_)
     simp only [zG]
     go_simp
     refine (CT.out _ L.bl).mono ?_; rintro e w1 ⟨v1, rfl, hq, g⟩; obtain ⟨q, rfl, sq, oq⟩ := hq; have L := L.below g; have Bv := via0 g Bv; have O := O.below g O.lt; have oq := oq.at; clear g
     refine hK.out _ _ ⟨L.b2, L.b3⟩ fun hH => ?_; clear hK K; try simp only [zX,zY]
     refine zR1 3 (fun K hK => ?_)
     simp only [zG]
     go_simp
     refine (CR.out _ L.bl).mono ?_; rintro e w2 ⟨v2, rfl, hq, g⟩; obtain ⟨y, rfl, sy, oy⟩ := hq; have L := L.below g; have Bv := via0 g Bv; have oq := oq.below g; have O := O.below g O.lt; have oy := oy.at; clear g
     refine hK.out _ _ ⟨L.b2, L.b3⟩ fun hH => ?_; clear hK K; try simp only [zX,zY]
     refine zR1 4 (fun K hK => ?_)
     simp only [zG]
     go_simp
     refine (CI.out _ q y sq sy oq oy).mono ?_; have m0 := Bv.size; have m2 := O.lt; rintro e w3 ⟨v3, rfl, hq, g⟩; obtain ⟨a, rfl, sa, oa⟩ := hq; have m1 := g.size; have L := L.below g; have Bv := via0 g Bv; have O := O.below g O.lt; clear g
     refine hK.out _ _ ⟨L.b2, L.b3⟩ fun hH => ?_; clear hK K; try simp only [zX,zY]
     refine zt1 5 ?_; refine ztn (h := ?_); try simp only [zX,zY]
     refine zte ?_
     refine zt1 6 ?_; refine ztn (h := ?_); try simp only [zX,zY]
     refine zte ?_
     refine zt1 7 ?_; refine ztn (h := ?_); try simp only [zX,zY]
     refine zte ?_
     refine zR1 9 (fun K hK => ?_)
     simp only [zG]
     rw [if_pos (by rfl)]
     refine wp_store_row 59 _ _ rfl (u0.heap.size) (Qaf a) rfl rfl 59 #[.int .i64 0, .int .i64 0, .int .i64 0, .int .i64 0, .int .i64 0, .slice none 0 0, .slice none 0 0, .slice none 0 0, .slice none 0 0, .int .i64 0, .slice none 0 0, .slice none 0 0, .int .i64 0, .slice none 0 0, .slice none 0 0, .slice none 0 0, .int .i64 0, .slice none 0 0, .slice none 0 0, .slice none 0 0, .int .i64 0, .slice none 0 0, .slice none 0 0, .slice none 0 0, .int .i64 0, .slice none 0 0] O (by kernel_rfl) rfl (Qa5 _) ?_
     have L9 := L.row (P := u0.heap.size) (by have h9 := L.b3.lt; have h8 := Vs.out; omega) (Qaf a)
     refine hK.out _ _ ⟨L9.b2, L9.b3⟩ (fun hH => ?_)
     clear hK K
     try simp only [zX,zY]
     refine zt1 10 ?_; refine ztn (h := ?_); try simp only [zX,zY]
     refine zte ?_
     refine zdn ?_
     go_wp2_with fail
     go_meet
     have m3 := O.lt
     exact Qdk (n0 := w2.heap.size) O Bv sa oa (by omega) (by omega) (by omega) (by omega)
  case rest =>
   obtain ⟨b15, m0, m1, h, rfl, rfl, O15, sh, oh, hn, gV⟩ := hcut
   replace HK := hidP (HK.out.below gV)
   have HO15 := hidP O15
   have Hoh := hidP oh.at
   clear L O15 oh hn gV
   go_upto_region 32 with fail
   refine wp_region_lit ?_
   refine Qag rfl 59 _ rfl (b := b15) rfl HO15.out Tryz.underlying59 (by kernel_rfl) ?_
   refine Qag rfl 59 _ rfl (b := b6) rfl HK.out.o6 Tryz.underlying59 (by kernel_rfl) ?_
   go_wp2_with fail
   refine (eqQ FT.out sh HSa.out Hoh.out HK.out.oa.at).mono ?_
   rintro e w32 ⟨rfl, g'⟩
   replace HK := hidP (HK.out.below g')
   clear g' HO15 Hoh
   go_upto_region 35 with fail
   refine wp_region_lit ?_
   refine Qag rfl 59 _ rfl (b := n7) rfl HK.out.o10 Tryz.underlying59 (by kernel_rfl) ?_
   go_wp2_with fail
   refine (HH.out _ HK.out.og).mono ?_
   rintro e w35 ⟨rfl, g'⟩
   replace HK := hidP (HK.out.below g')
   clear g'
   go_wp2
   go_ret
   exact ⟨rfl, HK.out.l.bl⟩
theorem contract (H : Type) (enc : TypeId × Value -> H) (W : World) (base : Nat) (args : Array Value) (ds gs : List (DataW H)) (before : List MemPlace)
 (hval : ∀ (j : Nat) t v, Tryz.f3.params[j]? = some t -> args[j]? = some v -> Value.okWide Tryz.prog W .any base t v)
 (hW : DataW.Whole enc Tryz.prog Tryz.f3.params.toList Rows.fnExactTellSpec.vars false W args.toList ds gs before) :
 Calls Tryz.prog 3 args W fun e W' => ∃ v, e = .returned v /\ Rows.fnExactTellSpec.post enc Tryz.prog Tryz.f3 false true false false W args v W' := by
 have hW' := hW
 obtain ⟨p, q, hA0, hV, rfl, hfz, hnd⟩ := hW
 have hA : DataW.TrodAll enc Tryz.prog W 0 (fun _ => true) true Tryz.f3.params.toList args.toList ds p := hA0
 rw [Tryz.params3] at hA hval
 obtain ⟨v0, vs0, d0, ds0, p0, q0, e0, rfl, rfl, h0, r0⟩ := trodAll_cons hA
 obtain ⟨v1, vs1, d1, ds1, p1, q1, rfl, rfl, rfl, h1, r1⟩ := trodAll_cons r0
 obtain ⟨rfl, rfl, rfl⟩ := trodAll_nil r1
 have e0' : args = #[v0, v1] := by cases args; simp_all
 subst e0'
 obtain ⟨rfl, rfl⟩ := trodVars_none hV
 obtain ⟨p, rfl, hr, hp⟩ := openPeer (hval 0 40 v0 rfl rfl) h0
 obtain ⟨kind, frm, too, term, index, iterm, commit, ok, snap, A, cap, l, rfl, _, _, _, _, _, _, _, hsn, hl, hrr, ha⟩ := openRpc (hval 1 42 v1 rfl rfl) h1
 refine (law_any p hr (⟨kind, frm, too, term, index, iterm, commit, A, cap, l, ok, snap⟩ : RpC) hsn hl hrr W hp ha).mono fun e W' ⟨he, hb⟩ => ?_
 subst he
 exact ⟨_, rfl, post_true laidOut (by kernel_rfl) (by kernel_rfl) Tryz.underlying4 rfl rfl hW' hb⟩
theorem lifted (os : Os) (started : os.Started) (H : Type) (enc : TypeId × Value -> H) :
 ReturnsInHanded {} Tryz.checked os 3 .any (Rows.fnExactTellSpec.pre6 enc Tryz.prog Tryz.f3 Rows.fnExactTellRow.domain false) (Rows.fnExactTellSpec.post enc Tryz.prog Tryz.f3 false true false false) := by
 refine returnsInHanded_of_change (C := Tryz.checked) own started (by kernel_rfl) Tryz.func3
  (ChangeSpec.witness6 (enc := enc) (C := Tryz.checked) false ⟨#[], #[.agg #[.int .i64 0, .int .i64 0, .int .i64 0, .int .i64 0, .int .i64 0, .slice none 0 0, .slice none 0 0, .slice none 0 0, .slice none 0 0, .int .i64 0, .slice none 0 0, .slice none 0 0, .int .i64 0, .slice none 0 0, .slice none 0 0, .slice none 0 0, .int .i64 0, .slice none 0 0, .slice none 0 0, .slice none 0 0, .int .i64 0, .slice none 0 0, .slice none 0 0, .slice none 0 0, .int .i64 0, .slice none 0 0], .agg #[.int .i64 0, .int .i64 0, .int .i64 0, .int .i64 0, .int .i64 0, .int .i64 0, .int .i64 0, .slice none 0 0, .bool false, .string ⟨#[]⟩]], []⟩ 8 (by kernel_rfl) (by kernel_rfl) (by kernel_rfl) (by kernel_rfl)) ?_
 intro W base args ds gs before hval0 hW _ _
 exact contract H enc W base args ds gs before hval0 hW
theorem proved : Rows.FnExactTellSaid :=
 OpenClaim.holds_of_wide 3 Tryz.f3 rfl rfl rfl rfl rfl rfl rfl ⟨rfl, rfl, rfl, rfl, rfl⟩ rfl rfl rfl rfl rfl (by kernel_rfl) Tryz.func3 (by kernel_rfl)
  (of_decide_eq_true (by kernel_rfl)) (by unfold Func.isWrapper; first | (rw [if_pos (by decide +kernel)]; kernel_rfl) | (rw [if_neg (by decide +kernel)]; exact ⟨rfl, rfl⟩))
  (fun os started H enc _ => lifted os started H enc)
end Go.Proofs.YtmdaammalacifaaGreat.Tell
namespace Go.Proofs.YtmdaammalacifaaGreat
theorem tell_holds : Rows.FnExactTellSaid := Tell.proved
end Go.Proofs.YtmdaammalacifaaGreat
