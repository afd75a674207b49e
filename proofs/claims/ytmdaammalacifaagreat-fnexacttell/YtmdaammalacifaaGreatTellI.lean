/-
  The program's Tell. No condition but that the node and the message fit.
-/
import Derived.Test.YtmdaammalacifaaGreatTlP
set_option linter.unusedVariables false
set_option linter.unusedSimpArgs false
set_option maxRecDepth 100000
set_option maxHeartbeats 8000000
namespace Go.Proofs.YtmdaammalacifaaGreat.Gen
open ChangeShapes WideShapes ChangeAt RowKit Joins Deep Base
theorem Qba {g : Nat} {cs : Array Value} {t : TypeId} (W : World) (hg : W.heap.size = g) : Blk (W.alloc (.cells cs t)) g t cs := by subst hg; exact Blk.new W _ _
structure Bx3 (w W : World) (p : PC) (r : RpC) (zs : Array Value) : Prop where
  bl : Below w.heap.size w W
  p1 : Blk W w.heap.size 59 (Qaf p)
  p2 : Blk W (w.heap.size + 1) 64 (rpcC r)
  p3 : Blk W (w.heap.size + 1 + 1) 59 zs
theorem Bx3.below {w W W' : World} {p : PC} {r : RpC} {zs : Array Value} (m : Bx3 w W p r zs) (g : Below W.heap.size W W') : Bx3 w W' p r zs := ⟨via0 g m.bl, m.p1.below g m.p1.lt, m.p2.below g m.p2.lt, m.p3.below g m.p3.lt⟩
theorem Bx3.new (w : World) (p : PC) (r : RpC) (zs : Array Value) : Bx3 w (((w.alloc (.cells (Qaf p) 59)).alloc (.cells (rpcC r) 64)).alloc (.cells zs 59)) p r zs :=
 ⟨by repeat (first | exact Below.refl _ _ | assumption | refine via0 (by assumption) ?_ | refine Below.drew ?_ | refine Qab ?_ _), ((Blk.new w _ _).alloc _).alloc _, by have := (Blk.new (w.alloc (.cells (Qaf p) 59)) 64 (rpcC r)).alloc (.cells zs 59); rwa [World.size_alloc] at this, by have := Blk.new ((w.alloc (.cells (Qaf p) 59)).alloc (.cells (rpcC r) 64)) 59 zs; rwa [World.size_alloc, World.size_alloc] at this⟩
theorem Bx3.drew {w W : World} {p : PC} {r : RpC} {zs : Array Value} (m : Bx3 w W p r zs) : Bx3 w W.drew p r zs := m.below (Below.refl _ _).drew
def Mid (w wx : World) (p : PC) (r : RpC) (zs : Array Value) (s6 s7 : Value) : Prop := ∃ (P : Nat) (q : PC), s6 = .pointer (some ⟨P, 0, none⟩) /\ s7 = .bool (decide (p.hs.length < 40)) /\ Blk wx P 90 (Qbs q (p.vs.length : Int) (Qbp q)) /\ Bx3 w wx p r zs /\ SameP q (Qco p r) /\ POwn wx q (Okb w P wx)
theorem Qcn {a g : Nat} {X : World} (h : a < X.heap.size) (hg : X.heap.size = g) : Hid (a < g) := hidP (hg ▸ h)
theorem Bx3.row {w W : World} {p : PC} {r : RpC} {zs : Array Value} {P : Nat} (m : Bx3 w W p r zs) (hP : w.heap.size + 1 + 1 < P) (cs : Array Value) : Bx3 w (W.setRow P cs) p r zs := ⟨Qbx m.bl (by omega) cs, m.p1.otherRow (by omega) cs, m.p2.otherRow (by omega) cs, m.p3.otherRow (by omega) cs⟩
theorem Qdz {w V w1 : World} {P : Nat} {q : PC} (h3 : w.heap.size + 1 + 1 < V.heap.size) (hP : P < V.heap.size) (h : POwn w1 q (fun z => V.heap.size <= z /\ z < w1.heap.size)) : POwn w1 q (Okb w P w1) := h.mono (fun z hz => by have h1 := hz.1; exact ⟨by omega, hz.2, by omega⟩)
theorem Qa1 {w W W' : World} {P : Nat} {q : PC} (h : POwn W q (Okb w P W)) (g : Below W.heap.size W W') : POwn W' q (Okb w P W') := (h.below g).mono (fun z hz => ⟨hz.1, Nat.lt_of_lt_of_le hz.2.1 g.size, hz.2.2⟩)
theorem Qbh {w W : World} {P g : Nat} {q : PC} (h : POwn W q (Okb w P W)) (ob : Obj) (hg : W.heap.size = g) : POwn (W.alloc ob) q (Okb w g (W.alloc ob)) := (h.below (Qab (Below.refl _ _) ob)).mono (fun z hz => ⟨hz.1, by rw [World.size_alloc]; have := hz.2.1; omega, by have := hz.2.1; omega⟩)
theorem mid_of {w X : World} {p q : PC} {r : RpC} {zs old : Array Value} {P : Nat} (I : Bx3 w X p r zs) (O : Blk X P 90 old) (hP : w.heap.size + 1 + 1 < P) (sq : SameP q (Qco p r)) (oq : POwn X q (Okb w P X)) :
 Mid w (X.setRow P (Qbs q (p.vs.length : Int) (Qbp q))) p r zs (.pointer (some ⟨P, 0, none⟩)) (.bool (decide (p.hs.length < 40))) := by
 have k := (Offp.refl (fun z => z = P) X).row (b := P) rfl (Qbs q (p.vs.length : Int) (Qbp q))
 exact ⟨P, q, rfl, rfl, O.row _, I.row hP _, sq, (oq.offp k (fun z hz e => hz.2.2 e)).mono (fun z hz => ⟨hz.1, Nat.lt_of_lt_of_le hz.2.1 k.size, hz.2.2⟩)⟩
theorem Qf6 (p : PC) (r : RpC) (hf : PFit p) (hr : r.l.length <= 1048576) (w : World) (hp : PAt w p) (ha : At w r.A r.l) :
 Calls Tryz.prog 9 #[.agg (Qaf p), .agg (rpcC r)] w fun e w' => ToldT w w' e p r := by
 have CP : Hid (∀ W : World, Below w.heap.size w W -> Calls Tryz.prog 32 #[.agg (Qaf p)] W fun e w' => ∃ v, e = .returned v /\ NewQ W w' v p /\ Below W.heap.size W w') := fun W g => peerCp_any p hf W (hp.below g)
 have HR := hidP ha
 clear hp ha
 have I := Bx3.new w p r #[.int .i64 0, .int .i64 0, .int .i64 0, .int .i64 0, .int .i64 0, .slice none 0 0, .slice none 0 0, .slice none 0 0, .slice none 0 0, .int .i64 0, .slice none 0 0, .slice none 0 0, .int .i64 0, .slice none 0 0, .slice none 0 0, .slice none 0 0, .int .i64 0, .slice none 0 0, .slice none 0 0, .slice none 0 0, .int .i64 0, .slice none 0 0, .slice none 0 0, .slice none 0 0, .int .i64 0, .slice none 0 0]
 go_enter Tryz.func9, Tryz.ntmps9
 go_upto_region 1 with fail
 have ZS : Hid ((#[.int .i64 0, .int .i64 0, .int .i64 0, .int .i64 0, .int .i64 0, .slice none 0 0, .slice none 0 0, .slice none 0 0, .slice none 0 0, .int .i64 0, .slice none 0 0, .slice none 0 0, .int .i64 0, .slice none 0 0, .slice none 0 0, .slice none 0 0, .int .i64 0, .slice none 0 0, .slice none 0 0, .slice none 0 0, .int .i64 0, .slice none 0 0, .slice none 0 0, .slice none 0 0, .int .i64 0, .slice none 0 0] : Array Value).size = 26) := hidP rfl
 generalize (((w.alloc (.cells (Qaf p) 59)).alloc (.cells (rpcC r) 64)).alloc (.cells #[.int .i64 0, .int .i64 0, .int .i64 0, .int .i64 0, .int .i64 0, .slice none 0 0, .slice none 0 0, .slice none 0 0, .slice none 0 0, .int .i64 0, .slice none 0 0, .slice none 0 0, .int .i64 0, .slice none 0 0, .slice none 0 0, .slice none 0 0, .int .i64 0, .slice none 0 0, .slice none 0 0, .slice none 0 0, .int .i64 0, .slice none 0 0, .slice none 0 0, .slice none 0 0, .int .i64 0, .slice none 0 0] 59)) = v0 at I ⊢
 generalize (#[.int .i64 0, .int .i64 0, .int .i64 0, .int .i64 0, .int .i64 0, .slice none 0 0, .slice none 0 0, .slice none 0 0, .slice none 0 0, .int .i64 0, .slice none 0 0, .slice none 0 0, .int .i64 0, .slice none 0 0, .slice none 0 0, .slice none 0 0, .int .i64 0, .slice none 0 0, .slice none 0 0, .slice none 0 0, .int .i64 0, .slice none 0 0, .slice none 0 0, .slice none 0 0, .int .i64 0, .slice none 0 0] : Array Value) = zs at I ZS ⊢
 replace I := I.drew
 go_cut [6, 7] from 9 to 20 (fun s6 s7 wx => Mid w wx p r zs s6 s7)
 case first =>
  refine wp_region_noPanic ?_
  refine wp_region_held_drew (S := fun (W : World) => Blk W w.heap.size 59 (Qaf p) /\ Blk W (w.heap.size + 1) 64 (rpcC r) /\ W.cell? ⟨w.heap.size, 13, none⟩ = some (.slice p.vA p.vs.length p.vc)) (by kernel_rfl) ?_ (fun hH => ?_)
  . exact ⟨I.p1, I.p2, I.p1.cell (i := 13) rfl⟩
  generalize v0.drew = u0 at *
  refine zt1 0 ?_; refine ztn (h := ?_); try simp only [zX,zY]
  refine zte ?_
  refine zt1 1 ?_; refine ztn (hy := fun w' hSw => Qa4 rfl rfl hSw.1 Tryz.underlying59 (by kernel_rfl)) (h := ?_); try simp only [zX,zY]
  refine zte ?_
  try simp only [zX,zY]
  refine ztk [3,4,5] ?_; repeat (refine ztn (h := ?_); try simp only [zX,zY])
  refine zte ?_
  refine zt1 7 ?_; refine ztn (hy := fun w' hSw => Qa4 rfl rfl hSw.2.1 Tryz.underlying64 (by kernel_rfl)) (h := ?_); try simp only [zX,zY]
  refine zte ?_
  try simp only [zX,zY]
  refine zR3 2 8 13 (fun K hK => ?_) (fun K hK => ?_) (fun K hK => ?_)
  focus
   simp only [zG]
   go_simp
   refine (CP.out _ I.bl).mono ?_; rintro e w1 ⟨v1, rfl, hq, g1⟩; obtain ⟨q, rfl, sq, oq⟩ := hq; have Q := Qdz I.p3.lt (Nat.lt_of_le_of_lt (Nat.zero_le _) I.p1.lt) oq; have I := I.below g1; clear g1 oq
   refine hK.out _ _ ⟨I.p1, I.p2, I.p1.cell (i := 13) rfl⟩ fun hH => ?_; clear hK K; try simp only [zX,zY]
   refine zR3 6 8 13 (fun K hK => ?_) (fun K hK => ?_) (fun K hK => ?_)
   focus
    simp only [zG]
    go_simp
    refine (Qb9 q (p.vs.length : Int) _).mono ?_; rintro e w2 ⟨rfl, g2⟩; have Q := Qa1 Q g2; have I := I.below g2; clear g2
    refine hK.out _ _ ⟨I.p1, I.p2, I.p1.cell (i := 13) rfl⟩ fun hH => ?_; clear hK K; try simp only [zX,zY]
    refine zR2 8 13 (fun K hK => ?_) (fun K hK => ?_)
    focus
     simp only [zG]
     simp only [rpcC]
     go_simp
     have B' := Qba (g := w2.heap.size) (cs := #[.int .i64 r.kind, .int .i64 r.frm, .int .i64 r.too, .int .i64 r.term, .int .i64 r.index, .int .i64 r.iterm, .int .i64 r.commit, .slice r.A r.l.length r.cap, .bool r.ok, .string r.snap]) (t := 64) (w2) (by simp); have Q := Qa1 Q (Qab (Below.refl _ _) (.cells #[.int .i64 r.kind, .int .i64 r.frm, .int .i64 r.too, .int .i64 r.term, .int .i64 r.index, .int .i64 r.iterm, .int .i64 r.commit, .slice r.A r.l.length r.cap, .bool r.ok, .string r.snap] 64)); have I := I.below (Qab (Below.refl _ _) (.cells #[.int .i64 r.kind, .int .i64 r.frm, .int .i64 r.too, .int .i64 r.term, .int .i64 r.index, .int .i64 r.iterm, .int .i64 r.commit, .slice r.A r.l.length r.cap, .bool r.ok, .string r.snap] 64)); have B := B'; clear B'
     refine hK.out _ _ ⟨I.p1, I.p2, I.p1.cell (i := 13) rfl⟩ fun hH => ?_; clear hK K; try simp only [zX,zY]
     generalize World.alloc w2 (.cells #[.int .i64 r.kind, .int .i64 r.frm, .int .i64 r.too, .int .i64 r.term, .int .i64 r.index, .int .i64 r.iterm, .int .i64 r.commit, .slice r.A r.l.length r.cap, .bool r.ok, .string r.snap] 64) = v8 at *
     refine zR2 9 13 (fun K hK => ?_) (fun K hK => ?_)
     focus
      simp only [zG]
      go_simp
      refine (Qc3 w p q r (0) (w2.heap.size) 64 (p.vs.length : Int) hf hr _ sq Q (Nat.lt_of_le_of_lt (Nat.zero_le _) I.p1.lt) I.p3.lt B (HR.out.below I.bl)).mono ?_; rintro e w3 ⟨q', rfl, sq', oq', g3⟩; have I := I.below g3; clear g3 Q sq
      refine hK.out _ _ ⟨I.p1, I.p2, I.p1.cell (i := 13) rfl⟩ fun hH => ?_; clear hK K; try simp only [zX,zY]
      refine ztk [10,11,12] ?_; repeat (refine ztn (h := ?_); try simp only [zX,zY])
      refine zte ?_
      refine zR1 13 (fun K hK => ?_)
      simp only [zG]
      go_simp
      have O' := Qba (g := w3.heap.size) (cs := #[.int .i64 0, .int .i64 0, .int .i64 0, .int .i64 0, .slice none 0 0, .slice none 0 0, .slice none 0 0, .slice none 0 0, .int .i64 0, .slice none 0 0, .slice none 0 0, .int .i64 0, .int .i64 0, .int .i64 0, .int .i64 0, .int .i64 0, .int .i64 0, .int .i64 0, .slice none 0 0, .slice none 0 0, .slice none 0 0, .int .i64 0, .slice none 0 0, .slice none 0 0, .slice none 0 0, .int .i64 0, .slice none 0 0, .slice none 0 0, .slice none 0 0, .int .i64 0, .slice none 0 0]) (t := 90) (w3) (by simp); have oq' := Qbh oq' (.cells #[.int .i64 0, .int .i64 0, .int .i64 0, .int .i64 0, .slice none 0 0, .slice none 0 0, .slice none 0 0, .slice none 0 0, .int .i64 0, .slice none 0 0, .slice none 0 0, .int .i64 0, .int .i64 0, .int .i64 0, .int .i64 0, .int .i64 0, .int .i64 0, .int .i64 0, .slice none 0 0, .slice none 0 0, .slice none 0 0, .int .i64 0, .slice none 0 0, .slice none 0 0, .slice none 0 0, .int .i64 0, .slice none 0 0, .slice none 0 0, .slice none 0 0, .int .i64 0, .slice none 0 0] 90) (g := w3.heap.size) (by simp); have hPl := Qcn I.p3.lt (g := w3.heap.size) (by simp); have B := B.alloc (.cells #[.int .i64 0, .int .i64 0, .int .i64 0, .int .i64 0, .slice none 0 0, .slice none 0 0, .slice none 0 0, .slice none 0 0, .int .i64 0, .slice none 0 0, .slice none 0 0, .int .i64 0, .int .i64 0, .int .i64 0, .int .i64 0, .int .i64 0, .int .i64 0, .int .i64 0, .slice none 0 0, .slice none 0 0, .slice none 0 0, .int .i64 0, .slice none 0 0, .slice none 0 0, .slice none 0 0, .int .i64 0, .slice none 0 0, .slice none 0 0, .slice none 0 0, .int .i64 0, .slice none 0 0] 90); have I := I.below (Qab (Below.refl _ _) (.cells #[.int .i64 0, .int .i64 0, .int .i64 0, .int .i64 0, .slice none 0 0, .slice none 0 0, .slice none 0 0, .slice none 0 0, .int .i64 0, .slice none 0 0, .slice none 0 0, .int .i64 0, .int .i64 0, .int .i64 0, .int .i64 0, .int .i64 0, .int .i64 0, .int .i64 0, .slice none 0 0, .slice none 0 0, .slice none 0 0, .int .i64 0, .slice none 0 0, .slice none 0 0, .slice none 0 0, .int .i64 0, .slice none 0 0, .slice none 0 0, .slice none 0 0, .int .i64 0, .slice none 0 0] 90)); have O := O'; clear O'
      refine hK.out _ _ ⟨I.p1, I.p2, I.p1.cell (i := 13) rfl⟩ fun hH => ?_; clear hK K; try simp only [zX,zY]
      generalize World.alloc w3 (.cells #[.int .i64 0, .int .i64 0, .int .i64 0, .int .i64 0, .slice none 0 0, .slice none 0 0, .slice none 0 0, .slice none 0 0, .int .i64 0, .slice none 0 0, .slice none 0 0, .int .i64 0, .int .i64 0, .int .i64 0, .int .i64 0, .int .i64 0, .int .i64 0, .int .i64 0, .slice none 0 0, .slice none 0 0, .slice none 0 0, .int .i64 0, .slice none 0 0, .slice none 0 0, .slice none 0 0, .int .i64 0, .slice none 0 0, .slice none 0 0, .slice none 0 0, .int .i64 0, .slice none 0 0] 90) = v13 at *
      refine zR1 14 (fun K hK => ?_)
      simp only [zG]
      rw [if_pos (by rfl)]
      refine wp_store_row 90 _ _ rfl (w3.heap.size) (Qbs q' (p.vs.length : Int) (Qbp q')) rfl rfl 90 #[.int .i64 0, .int .i64 0, .int .i64 0, .int .i64 0, .slice none 0 0, .slice none 0 0, .slice none 0 0, .slice none 0 0, .int .i64 0, .slice none 0 0, .slice none 0 0, .int .i64 0, .int .i64 0, .int .i64 0, .int .i64 0, .int .i64 0, .int .i64 0, .int .i64 0, .slice none 0 0, .slice none 0 0, .slice none 0 0, .int .i64 0, .slice none 0 0, .slice none 0 0, .slice none 0 0, .int .i64 0, .slice none 0 0, .slice none 0 0, .slice none 0 0, .int .i64 0, .slice none 0 0] O (by kernel_rfl) rfl (Qa6 _ _ _ rfl) ?_
     rotate_left
     focus
      simp only [zG]
      go_simp
      have O' := Qba (g := v8.heap.size) (cs := #[.int .i64 0, .int .i64 0, .int .i64 0, .int .i64 0, .slice none 0 0, .slice none 0 0, .slice none 0 0, .slice none 0 0, .int .i64 0, .slice none 0 0, .slice none 0 0, .int .i64 0, .int .i64 0, .int .i64 0, .int .i64 0, .int .i64 0, .int .i64 0, .int .i64 0, .slice none 0 0, .slice none 0 0, .slice none 0 0, .int .i64 0, .slice none 0 0, .slice none 0 0, .slice none 0 0, .int .i64 0, .slice none 0 0, .slice none 0 0, .slice none 0 0, .int .i64 0, .slice none 0 0]) (t := 90) (v8) (by simp); have Q := Qbh Q (.cells #[.int .i64 0, .int .i64 0, .int .i64 0, .int .i64 0, .slice none 0 0, .slice none 0 0, .slice none 0 0, .slice none 0 0, .int .i64 0, .slice none 0 0, .slice none 0 0, .int .i64 0, .int .i64 0, .int .i64 0, .int .i64 0, .int .i64 0, .int .i64 0, .int .i64 0, .slice none 0 0, .slice none 0 0, .slice none 0 0, .int .i64 0, .slice none 0 0, .slice none 0 0, .slice none 0 0, .int .i64 0, .slice none 0 0, .slice none 0 0, .slice none 0 0, .int .i64 0, .slice none 0 0] 90) (g := v8.heap.size) (by simp); have hPl := Qcn I.p3.lt (g := v8.heap.size) (by simp); have B := B.alloc (.cells #[.int .i64 0, .int .i64 0, .int .i64 0, .int .i64 0, .slice none 0 0, .slice none 0 0, .slice none 0 0, .slice none 0 0, .int .i64 0, .slice none 0 0, .slice none 0 0, .int .i64 0, .int .i64 0, .int .i64 0, .int .i64 0, .int .i64 0, .int .i64 0, .int .i64 0, .slice none 0 0, .slice none 0 0, .slice none 0 0, .int .i64 0, .slice none 0 0, .slice none 0 0, .slice none 0 0, .int .i64 0, .slice none 0 0, .slice none 0 0, .slice none 0 0, .int .i64 0, .slice none 0 0] 90); have I := I.below (Qab (Below.refl _ _) (.cells #[.int .i64 0, .int .i64 0, .int .i64 0, .int .i64 0, .slice none 0 0, .slice none 0 0, .slice none 0 0, .slice none 0 0, .int .i64 0, .slice none 0 0, .slice none 0 0, .int .i64 0, .int .i64 0, .int .i64 0, .int .i64 0, .int .i64 0, .int .i64 0, .int .i64 0, .slice none 0 0, .slice none 0 0, .slice none 0 0, .int .i64 0, .slice none 0 0, .slice none 0 0, .slice none 0 0, .int .i64 0, .slice none 0 0, .slice none 0 0, .slice none 0 0, .int .i64 0, .slice none 0 0] 90)); have O := O'; clear O'
      refine hK.out _ _ ⟨I.p1, I.p2, I.p1.cell (i := 13) rfl⟩ fun hH => ?_; clear hK K; try simp only [zX,zY]
      generalize World.alloc v8 (.cells #[.int .i64 0, .int .i64 0, .int .i64 0, .int .i64 0, .slice none 0 0, .slice none 0 0, .slice none 0 0, .slice none 0 0, .int .i64 0, .slice none 0 0, .slice none 0 0, .int .i64 0, .int .i64 0, .int .i64 0, .int .i64 0, .int .i64 0, .int .i64 0, .int .i64 0, .slice none 0 0, .slice none 0 0, .slice none 0 0, .int .i64 0, .slice none 0 0, .slice none 0 0, .slice none 0 0, .int .i64 0, .slice none 0 0, .slice none 0 0, .slice none 0 0, .int .i64 0, .slice none 0 0] 90) = v13 at *
      refine zR1 9 (fun K hK => ?_)
      simp only [zG]
      go_simp
      refine (Qc3 w p q r (v8.heap.size) (w2.heap.size) 64 (p.vs.length : Int) hf hr _ sq Q O.lt I.p3.lt B (HR.out.below I.bl)).mono ?_; rintro e w3 ⟨q', rfl, sq', oq', g3⟩; have I := I.below g3; have O := O.below g3 O.lt; clear g3 Q sq
      refine hK.out _ _ ⟨I.p1, I.p2, I.p1.cell (i := 13) rfl⟩ fun hH => ?_; clear hK K; try simp only [zX,zY]
      refine ztk [10,11,12] ?_; repeat (refine ztn (h := ?_); try simp only [zX,zY])
      refine zte ?_
      refine zR1 14 (fun K hK => ?_)
      simp only [zG]
      rw [if_pos (by rfl)]
      refine wp_store_row 90 _ _ rfl (v8.heap.size) (Qbs q' (p.vs.length : Int) (Qbp q')) rfl rfl 90 #[.int .i64 0, .int .i64 0, .int .i64 0, .int .i64 0, .slice none 0 0, .slice none 0 0, .slice none 0 0, .slice none 0 0, .int .i64 0, .slice none 0 0, .slice none 0 0, .int .i64 0, .int .i64 0, .int .i64 0, .int .i64 0, .int .i64 0, .int .i64 0, .int .i64 0, .slice none 0 0, .slice none 0 0, .slice none 0 0, .int .i64 0, .slice none 0 0, .slice none 0 0, .slice none 0 0, .int .i64 0, .slice none 0 0, .slice none 0 0, .slice none 0 0, .int .i64 0, .slice none 0 0] O (by kernel_rfl) rfl (Qa6 _ _ _ rfl) ?_
    rotate_left 2
    focus
     simp only [zG]
     go_simp
     have O' := Qba (g := w2.heap.size) (cs := #[.int .i64 0, .int .i64 0, .int .i64 0, .int .i64 0, .slice none 0 0, .slice none 0 0, .slice none 0 0, .slice none 0 0, .int .i64 0, .slice none 0 0, .slice none 0 0, .int .i64 0, .int .i64 0, .int .i64 0, .int .i64 0, .int .i64 0, .int .i64 0, .int .i64 0, .slice none 0 0, .slice none 0 0, .slice none 0 0, .int .i64 0, .slice none 0 0, .slice none 0 0, .slice none 0 0, .int .i64 0, .slice none 0 0, .slice none 0 0, .slice none 0 0, .int .i64 0, .slice none 0 0]) (t := 90) (w2) (by simp); have Q := Qbh Q (.cells #[.int .i64 0, .int .i64 0, .int .i64 0, .int .i64 0, .slice none 0 0, .slice none 0 0, .slice none 0 0, .slice none 0 0, .int .i64 0, .slice none 0 0, .slice none 0 0, .int .i64 0, .int .i64 0, .int .i64 0, .int .i64 0, .int .i64 0, .int .i64 0, .int .i64 0, .slice none 0 0, .slice none 0 0, .slice none 0 0, .int .i64 0, .slice none 0 0, .slice none 0 0, .slice none 0 0, .int .i64 0, .slice none 0 0, .slice none 0 0, .slice none 0 0, .int .i64 0, .slice none 0 0] 90) (g := w2.heap.size) (by simp); have hPl := Qcn I.p3.lt (g := w2.heap.size) (by simp); have I := I.below (Qab (Below.refl _ _) (.cells #[.int .i64 0, .int .i64 0, .int .i64 0, .int .i64 0, .slice none 0 0, .slice none 0 0, .slice none 0 0, .slice none 0 0, .int .i64 0, .slice none 0 0, .slice none 0 0, .int .i64 0, .int .i64 0, .int .i64 0, .int .i64 0, .int .i64 0, .int .i64 0, .int .i64 0, .slice none 0 0, .slice none 0 0, .slice none 0 0, .int .i64 0, .slice none 0 0, .slice none 0 0, .slice none 0 0, .int .i64 0, .slice none 0 0, .slice none 0 0, .slice none 0 0, .int .i64 0, .slice none 0 0] 90)); have O := O'; clear O'
     refine hK.out _ _ ⟨I.p1, I.p2, I.p1.cell (i := 13) rfl⟩ fun hH => ?_; clear hK K; try simp only [zX,zY]
     generalize World.alloc w2 (.cells #[.int .i64 0, .int .i64 0, .int .i64 0, .int .i64 0, .slice none 0 0, .slice none 0 0, .slice none 0 0, .slice none 0 0, .int .i64 0, .slice none 0 0, .slice none 0 0, .int .i64 0, .int .i64 0, .int .i64 0, .int .i64 0, .int .i64 0, .int .i64 0, .int .i64 0, .slice none 0 0, .slice none 0 0, .slice none 0 0, .int .i64 0, .slice none 0 0, .slice none 0 0, .slice none 0 0, .int .i64 0, .slice none 0 0, .slice none 0 0, .slice none 0 0, .int .i64 0, .slice none 0 0] 90) = v13 at *
     refine zR1 8 (fun K hK => ?_)
     simp only [zG]
     simp only [rpcC]
     go_simp
     have B' := Qba (g := v13.heap.size) (cs := #[.int .i64 r.kind, .int .i64 r.frm, .int .i64 r.too, .int .i64 r.term, .int .i64 r.index, .int .i64 r.iterm, .int .i64 r.commit, .slice r.A r.l.length r.cap, .bool r.ok, .string r.snap]) (t := 64) (v13) (by simp); have Q := Qa1 Q (Qab (Below.refl _ _) (.cells #[.int .i64 r.kind, .int .i64 r.frm, .int .i64 r.too, .int .i64 r.term, .int .i64 r.index, .int .i64 r.iterm, .int .i64 r.commit, .slice r.A r.l.length r.cap, .bool r.ok, .string r.snap] 64)); have O := O.alloc (.cells #[.int .i64 r.kind, .int .i64 r.frm, .int .i64 r.too, .int .i64 r.term, .int .i64 r.index, .int .i64 r.iterm, .int .i64 r.commit, .slice r.A r.l.length r.cap, .bool r.ok, .string r.snap] 64); have I := I.below (Qab (Below.refl _ _) (.cells #[.int .i64 r.kind, .int .i64 r.frm, .int .i64 r.too, .int .i64 r.term, .int .i64 r.index, .int .i64 r.iterm, .int .i64 r.commit, .slice r.A r.l.length r.cap, .bool r.ok, .string r.snap] 64)); have B := B'; clear B'
     refine hK.out _ _ ⟨I.p1, I.p2, I.p1.cell (i := 13) rfl⟩ fun hH => ?_; clear hK K; try simp only [zX,zY]
     generalize World.alloc v13 (.cells #[.int .i64 r.kind, .int .i64 r.frm, .int .i64 r.too, .int .i64 r.term, .int .i64 r.index, .int .i64 r.iterm, .int .i64 r.commit, .slice r.A r.l.length r.cap, .bool r.ok, .string r.snap] 64) = v8 at *
     refine zR1 9 (fun K hK => ?_)
     simp only [zG]
     go_simp
     refine (Qc3 w p q r (w2.heap.size) (v13.heap.size) 64 (p.vs.length : Int) hf hr _ sq Q O.lt I.p3.lt B (HR.out.below I.bl)).mono ?_; rintro e w3 ⟨q', rfl, sq', oq', g3⟩; have I := I.below g3; have O := O.below g3 O.lt; clear g3 Q sq
     refine hK.out _ _ ⟨I.p1, I.p2, I.p1.cell (i := 13) rfl⟩ fun hH => ?_; clear hK K; try simp only [zX,zY]
     refine ztk [10,11,12] ?_; repeat (refine ztn (h := ?_); try simp only [zX,zY])
     refine zte ?_
     refine zR1 14 (fun K hK => ?_)
     simp only [zG]
     rw [if_pos (by rfl)]
     refine wp_store_row 90 _ _ rfl (w2.heap.size) (Qbs q' (p.vs.length : Int) (Qbp q')) rfl rfl 90 #[.int .i64 0, .int .i64 0, .int .i64 0, .int .i64 0, .slice none 0 0, .slice none 0 0, .slice none 0 0, .slice none 0 0, .int .i64 0, .slice none 0 0, .slice none 0 0, .int .i64 0, .int .i64 0, .int .i64 0, .int .i64 0, .int .i64 0, .int .i64 0, .int .i64 0, .slice none 0 0, .slice none 0 0, .slice none 0 0, .int .i64 0, .slice none 0 0, .slice none 0 0, .slice none 0 0, .int .i64 0, .slice none 0 0, .slice none 0 0, .slice none 0 0, .int .i64 0, .slice none 0 0] O (by kernel_rfl) rfl (Qa6 _ _ _ rfl) ?_
   rotate_left 3
   focus
    simp only [zG]
    simp only [rpcC]
    go_simp
    have B' := Qba (g := w1.heap.size) (cs := #[.int .i64 r.kind, .int .i64 r.frm, .int .i64 r.too, .int .i64 r.term, .int .i64 r.index, .int .i64 r.iterm, .int .i64 r.commit, .slice r.A r.l.length r.cap, .bool r.ok, .string r.snap]) (t := 64) (w1) (by simp); have Q := Qa1 Q (Qab (Below.refl _ _) (.cells #[.int .i64 r.kind, .int .i64 r.frm, .int .i64 r.too, .int .i64 r.term, .int .i64 r.index, .int .i64 r.iterm, .int .i64 r.commit, .slice r.A r.l.length r.cap, .bool r.ok, .string r.snap] 64)); have I := I.below (Qab (Below.refl _ _) (.cells #[.int .i64 r.kind, .int .i64 r.frm, .int .i64 r.too, .int .i64 r.term, .int .i64 r.index, .int .i64 r.iterm, .int .i64 r.commit, .slice r.A r.l.length r.cap, .bool r.ok, .string r.snap] 64)); have B := B'; clear B'
    refine hK.out _ _ ⟨I.p1, I.p2, I.p1.cell (i := 13) rfl⟩ fun hH => ?_; clear hK K; try simp only [zX,zY]
    generalize World.alloc w1 (.cells #[.int .i64 r.kind, .int .i64 r.frm, .int .i64 r.too, .int .i64 r.term, .int .i64 r.index, .int .i64 r.iterm, .int .i64 r.commit, .slice r.A r.l.length r.cap, .bool r.ok, .string r.snap] 64) = v8 at *
    refine zR2 6 13 (fun K hK => ?_) (fun K hK => ?_)
    focus
     simp only [zG]
     go_simp
     refine (Qb9 q (p.vs.length : Int) _).mono ?_; rintro e w2 ⟨rfl, g2⟩; have Q := Qa1 Q g2; have I := I.below g2; have B := B.below g2 B.lt; clear g2
     refine hK.out _ _ ⟨I.p1, I.p2, I.p1.cell (i := 13) rfl⟩ fun hH => ?_; clear hK K; try simp only [zX,zY]
     refine zR2 9 13 (fun K hK => ?_) (fun K hK => ?_)
     focus
      simp only [zG]
      go_simp
      refine (Qc3 w p q r (0) (w1.heap.size) 64 (p.vs.length : Int) hf hr _ sq Q (Nat.lt_of_le_of_lt (Nat.zero_le _) I.p1.lt) I.p3.lt B (HR.out.below I.bl)).mono ?_; rintro e w3 ⟨q', rfl, sq', oq', g3⟩; have I := I.below g3; clear g3 Q sq
      refine hK.out _ _ ⟨I.p1, I.p2, I.p1.cell (i := 13) rfl⟩ fun hH => ?_; clear hK K; try simp only [zX,zY]
      refine ztk [10,11,12] ?_; repeat (refine ztn (h := ?_); try simp only [zX,zY])
      refine zte ?_
      refine zR1 13 (fun K hK => ?_)
      simp only [zG]
      go_simp
      have O' := Qba (g := w3.heap.size) (cs := #[.int .i64 0, .int .i64 0, .int .i64 0, .int .i64 0, .slice none 0 0, .slice none 0 0, .slice none 0 0, .slice none 0 0, .int .i64 0, .slice none 0 0, .slice none 0 0, .int .i64 0, .int .i64 0, .int .i64 0, .int .i64 0, .int .i64 0, .int .i64 0, .int .i64 0, .slice none 0 0, .slice none 0 0, .slice none 0 0, .int .i64 0, .slice none 0 0, .slice none 0 0, .slice none 0 0, .int .i64 0, .slice none 0 0, .slice none 0 0, .slice none 0 0, .int .i64 0, .slice none 0 0]) (t := 90) (w3) (by simp); have oq' := Qbh oq' (.cells #[.int .i64 0, .int .i64 0, .int .i64 0, .int .i64 0, .slice none 0 0, .slice none 0 0, .slice none 0 0, .slice none 0 0, .int .i64 0, .slice none 0 0, .slice none 0 0, .int .i64 0, .int .i64 0, .int .i64 0, .int .i64 0, .int .i64 0, .int .i64 0, .int .i64 0, .slice none 0 0, .slice none 0 0, .slice none 0 0, .int .i64 0, .slice none 0 0, .slice none 0 0, .slice none 0 0, .int .i64 0, .slice none 0 0, .slice none 0 0, .slice none 0 0, .int .i64 0, .slice none 0 0] 90) (g := w3.heap.size) (by simp); have hPl := Qcn I.p3.lt (g := w3.heap.size) (by simp); have B := B.alloc (.cells #[.int .i64 0, .int .i64 0, .int .i64 0, .int .i64 0, .slice none 0 0, .slice none 0 0, .slice none 0 0, .slice none 0 0, .int .i64 0, .slice none 0 0, .slice none 0 0, .int .i64 0, .int .i64 0, .int .i64 0, .int .i64 0, .int .i64 0, .int .i64 0, .int .i64 0, .slice none 0 0, .slice none 0 0, .slice none 0 0, .int .i64 0, .slice none 0 0, .slice none 0 0, .slice none 0 0, .int .i64 0, .slice none 0 0, .slice none 0 0, .slice none 0 0, .int .i64 0, .slice none 0 0] 90); have I := I.below (Qab (Below.refl _ _) (.cells #[.int .i64 0, .int .i64 0, .int .i64 0, .int .i64 0, .slice none 0 0, .slice none 0 0, .slice none 0 0, .slice none 0 0, .int .i64 0, .slice none 0 0, .slice none 0 0, .int .i64 0, .int .i64 0, .int .i64 0, .int .i64 0, .int .i64 0, .int .i64 0, .int .i64 0, .slice none 0 0, .slice none 0 0, .slice none 0 0, .int .i64 0, .slice none 0 0, .slice none 0 0, .slice none 0 0, .int .i64 0, .slice none 0 0, .slice none 0 0, .slice none 0 0, .int .i64 0, .slice none 0 0] 90)); have O := O'; clear O'
      refine hK.out _ _ ⟨I.p1, I.p2, I.p1.cell (i := 13) rfl⟩ fun hH => ?_; clear hK K; try simp only [zX,zY]
      generalize World.alloc w3 (.cells #[.int .i64 0, .int .i64 0, .int .i64 0, .int .i64 0, .slice none 0 0, .slice none 0 0, .slice none 0 0, .slice none 0 0, .int .i64 0, .slice none 0 0, .slice none 0 0, .int .i64 0, .int .i64 0, .int .i64 0, .int .i64 0, .int .i64 0, .int .i64 0, .int .i64 0, .slice none 0 0, .slice none 0 0, .slice none 0 0, .int .i64 0, .slice none 0 0, .slice none 0 0, .slice none 0 0, .int .i64 0, .slice none 0 0, .slice none 0 0, .slice none 0 0, .int .i64 0, .slice none 0 0] 90) = v13 at *
      refine zR1 14 (fun K hK => ?_)
      simp only [zG]
      rw [if_pos (by rfl)]
      refine wp_store_row 90 _ _ rfl (w3.heap.size) (Qbs q' (p.vs.length : Int) (Qbp q')) rfl rfl 90 #[.int .i64 0, .int .i64 0, .int .i64 0, .int .i64 0, .slice none 0 0, .slice none 0 0, .slice none 0 0, .slice none 0 0, .int .i64 0, .slice none 0 0, .slice none 0 0, .int .i64 0, .int .i64 0, .int .i64 0, .int .i64 0, .int .i64 0, .int .i64 0, .int .i64 0, .slice none 0 0, .slice none 0 0, .slice none 0 0, .int .i64 0, .slice none 0 0, .slice none 0 0, .slice none 0 0, .int .i64 0, .slice none 0 0, .slice none 0 0, .slice none 0 0, .int .i64 0, .slice none 0 0] O (by kernel_rfl) rfl (Qa6 _ _ _ rfl) ?_
     rotate_left
     focus
      simp only [zG]
      go_simp
      have O' := Qba (g := w2.heap.size) (cs := #[.int .i64 0, .int .i64 0, .int .i64 0, .int .i64 0, .slice none 0 0, .slice none 0 0, .slice none 0 0, .slice none 0 0, .int .i64 0, .slice none 0 0, .slice none 0 0, .int .i64 0, .int .i64 0, .int .i64 0, .int .i64 0, .int .i64 0, .int .i64 0, .int .i64 0, .slice none 0 0, .slice none 0 0, .slice none 0 0, .int .i64 0, .slice none 0 0, .slice none 0 0, .slice none 0 0, .int .i64 0, .slice none 0 0, .slice none 0 0, .slice none 0 0, .int .i64 0, .slice none 0 0]) (t := 90) (w2) (by simp); have Q := Qbh Q (.cells #[.int .i64 0, .int .i64 0, .int .i64 0, .int .i64 0, .slice none 0 0, .slice none 0 0, .slice none 0 0, .slice none 0 0, .int .i64 0, .slice none 0 0, .slice none 0 0, .int .i64 0, .int .i64 0, .int .i64 0, .int .i64 0, .int .i64 0, .int .i64 0, .int .i64 0, .slice none 0 0, .slice none 0 0, .slice none 0 0, .int .i64 0, .slice none 0 0, .slice none 0 0, .slice none 0 0, .int .i64 0, .slice none 0 0, .slice none 0 0, .slice none 0 0, .int .i64 0, .slice none 0 0] 90) (g := w2.heap.size) (by simp); have hPl := Qcn I.p3.lt (g := w2.heap.size) (by simp); have B := B.alloc (.cells #[.int .i64 0, .int .i64 0, .int .i64 0, .int .i64 0, .slice none 0 0, .slice none 0 0, .slice none 0 0, .slice none 0 0, .int .i64 0, .slice none 0 0, .slice none 0 0, .int .i64 0, .int .i64 0, .int .i64 0, .int .i64 0, .int .i64 0, .int .i64 0, .int .i64 0, .slice none 0 0, .slice none 0 0, .slice none 0 0, .int .i64 0, .slice none 0 0, .slice none 0 0, .slice none 0 0, .int .i64 0, .slice none 0 0, .slice none 0 0, .slice none 0 0, .int .i64 0, .slice none 0 0] 90); have I := I.below (Qab (Below.refl _ _) (.cells #[.int .i64 0, .int .i64 0, .int .i64 0, .int .i64 0, .slice none 0 0, .slice none 0 0, .slice none 0 0, .slice none 0 0, .int .i64 0, .slice none 0 0, .slice none 0 0, .int .i64 0, .int .i64 0, .int .i64 0, .int .i64 0, .int .i64 0, .int .i64 0, .int .i64 0, .slice none 0 0, .slice none 0 0, .slice none 0 0, .int .i64 0, .slice none 0 0, .slice none 0 0, .slice none 0 0, .int .i64 0, .slice none 0 0, .slice none 0 0, .slice none 0 0, .int .i64 0, .slice none 0 0] 90)); have O := O'; clear O'
      refine hK.out _ _ ⟨I.p1, I.p2, I.p1.cell (i := 13) rfl⟩ fun hH => ?_; clear hK K; try simp only [zX,zY]
      generalize World.alloc w2 (.cells #[.int .i64 0, .int .i64 0, .int .i64 0, .int .i64 0, .slice none 0 0, .slice none 0 0, .slice none 0 0, .slice none 0 0, .int .i64 0, .slice none 0 0, .slice none 0 0, .int .i64 0, .int .i64 0, .int .i64 0, .int .i64 0, .int .i64 0, .int .i64 0, .int .i64 0, .slice none 0 0, .slice none 0 0, .slice none 0 0, .int .i64 0, .slice none 0 0, .slice none 0 0, .slice none 0 0, .int .i64 0, .slice none 0 0, .slice none 0 0, .slice none 0 0, .int .i64 0, .slice none 0 0] 90) = v13 at *
      refine zR1 9 (fun K hK => ?_)
      simp only [zG]
      go_simp
      refine (Qc3 w p q r (w2.heap.size) (w1.heap.size) 64 (p.vs.length : Int) hf hr _ sq Q O.lt I.p3.lt B (HR.out.below I.bl)).mono ?_; rintro e w3 ⟨q', rfl, sq', oq', g3⟩; have I := I.below g3; have O := O.below g3 O.lt; clear g3 Q sq
      refine hK.out _ _ ⟨I.p1, I.p2, I.p1.cell (i := 13) rfl⟩ fun hH => ?_; clear hK K; try simp only [zX,zY]
      refine ztk [10,11,12] ?_; repeat (refine ztn (h := ?_); try simp only [zX,zY])
      refine zte ?_
      refine zR1 14 (fun K hK => ?_)
      simp only [zG]
      rw [if_pos (by rfl)]
      refine wp_store_row 90 _ _ rfl (w2.heap.size) (Qbs q' (p.vs.length : Int) (Qbp q')) rfl rfl 90 #[.int .i64 0, .int .i64 0, .int .i64 0, .int .i64 0, .slice none 0 0, .slice none 0 0, .slice none 0 0, .slice none 0 0, .int .i64 0, .slice none 0 0, .slice none 0 0, .int .i64 0, .int .i64 0, .int .i64 0, .int .i64 0, .int .i64 0, .int .i64 0, .int .i64 0, .slice none 0 0, .slice none 0 0, .slice none 0 0, .int .i64 0, .slice none 0 0, .slice none 0 0, .slice none 0 0, .int .i64 0, .slice none 0 0, .slice none 0 0, .slice none 0 0, .int .i64 0, .slice none 0 0] O (by kernel_rfl) rfl (Qa6 _ _ _ rfl) ?_
    rotate_left 2
    focus
     simp only [zG]
     go_simp
     have O' := Qba (g := v8.heap.size) (cs := #[.int .i64 0, .int .i64 0, .int .i64 0, .int .i64 0, .slice none 0 0, .slice none 0 0, .slice none 0 0, .slice none 0 0, .int .i64 0, .slice none 0 0, .slice none 0 0, .int .i64 0, .int .i64 0, .int .i64 0, .int .i64 0, .int .i64 0, .int .i64 0, .int .i64 0, .slice none 0 0, .slice none 0 0, .slice none 0 0, .int .i64 0, .slice none 0 0, .slice none 0 0, .slice none 0 0, .int .i64 0, .slice none 0 0, .slice none 0 0, .slice none 0 0, .int .i64 0, .slice none 0 0]) (t := 90) (v8) (by simp); have Q := Qbh Q (.cells #[.int .i64 0, .int .i64 0, .int .i64 0, .int .i64 0, .slice none 0 0, .slice none 0 0, .slice none 0 0, .slice none 0 0, .int .i64 0, .slice none 0 0, .slice none 0 0, .int .i64 0, .int .i64 0, .int .i64 0, .int .i64 0, .int .i64 0, .int .i64 0, .int .i64 0, .slice none 0 0, .slice none 0 0, .slice none 0 0, .int .i64 0, .slice none 0 0, .slice none 0 0, .slice none 0 0, .int .i64 0, .slice none 0 0, .slice none 0 0, .slice none 0 0, .int .i64 0, .slice none 0 0] 90) (g := v8.heap.size) (by simp); have hPl := Qcn I.p3.lt (g := v8.heap.size) (by simp); have B := B.alloc (.cells #[.int .i64 0, .int .i64 0, .int .i64 0, .int .i64 0, .slice none 0 0, .slice none 0 0, .slice none 0 0, .slice none 0 0, .int .i64 0, .slice none 0 0, .slice none 0 0, .int .i64 0, .int .i64 0, .int .i64 0, .int .i64 0, .int .i64 0, .int .i64 0, .int .i64 0, .slice none 0 0, .slice none 0 0, .slice none 0 0, .int .i64 0, .slice none 0 0, .slice none 0 0, .slice none 0 0, .int .i64 0, .slice none 0 0, .slice none 0 0, .slice none 0 0, .int .i64 0, .slice none 0 0] 90); have I := I.below (Qab (Below.refl _ _) (.cells #[.int .i64 0, .int .i64 0, .int .i64 0, .int .i64 0, .slice none 0 0, .slice none 0 0, .slice none 0 0, .slice none 0 0, .int .i64 0, .slice none 0 0, .slice none 0 0, .int .i64 0, .int .i64 0, .int .i64 0, .int .i64 0, .int .i64 0, .int .i64 0, .int .i64 0, .slice none 0 0, .slice none 0 0, .slice none 0 0, .int .i64 0, .slice none 0 0, .slice none 0 0, .slice none 0 0, .int .i64 0, .slice none 0 0, .slice none 0 0, .slice none 0 0, .int .i64 0, .slice none 0 0] 90)); have O := O'; clear O'
     refine hK.out _ _ ⟨I.p1, I.p2, I.p1.cell (i := 13) rfl⟩ fun hH => ?_; clear hK K; try simp only [zX,zY]
     generalize World.alloc v8 (.cells #[.int .i64 0, .int .i64 0, .int .i64 0, .int .i64 0, .slice none 0 0, .slice none 0 0, .slice none 0 0, .slice none 0 0, .int .i64 0, .slice none 0 0, .slice none 0 0, .int .i64 0, .int .i64 0, .int .i64 0, .int .i64 0, .int .i64 0, .int .i64 0, .int .i64 0, .slice none 0 0, .slice none 0 0, .slice none 0 0, .int .i64 0, .slice none 0 0, .slice none 0 0, .slice none 0 0, .int .i64 0, .slice none 0 0, .slice none 0 0, .slice none 0 0, .int .i64 0, .slice none 0 0] 90) = v13 at *
     refine zR1 6 (fun K hK => ?_)
     simp only [zG]
     go_simp
     refine (Qb9 q (p.vs.length : Int) _).mono ?_; rintro e w2 ⟨rfl, g2⟩; have Q := Qa1 Q g2; have I := I.below g2; have O := O.below g2 O.lt; have B := B.below g2 B.lt; clear g2
     refine hK.out _ _ ⟨I.p1, I.p2, I.p1.cell (i := 13) rfl⟩ fun hH => ?_; clear hK K; try simp only [zX,zY]
     refine zR1 9 (fun K hK => ?_)
     simp only [zG]
     go_simp
     refine (Qc3 w p q r (v8.heap.size) (w1.heap.size) 64 (p.vs.length : Int) hf hr _ sq Q O.lt I.p3.lt B (HR.out.below I.bl)).mono ?_; rintro e w3 ⟨q', rfl, sq', oq', g3⟩; have I := I.below g3; have O := O.below g3 O.lt; clear g3 Q sq
     refine hK.out _ _ ⟨I.p1, I.p2, I.p1.cell (i := 13) rfl⟩ fun hH => ?_; clear hK K; try simp only [zX,zY]
     refine ztk [10,11,12] ?_; repeat (refine ztn (h := ?_); try simp only [zX,zY])
     refine zte ?_
     refine zR1 14 (fun K hK => ?_)
     simp only [zG]
     rw [if_pos (by rfl)]
     refine wp_store_row 90 _ _ rfl (v8.heap.size) (Qbs q' (p.vs.length : Int) (Qbp q')) rfl rfl 90 #[.int .i64 0, .int .i64 0, .int .i64 0, .int .i64 0, .slice none 0 0, .slice none 0 0, .slice none 0 0, .slice none 0 0, .int .i64 0, .slice none 0 0, .slice none 0 0, .int .i64 0, .int .i64 0, .int .i64 0, .int .i64 0, .int .i64 0, .int .i64 0, .int .i64 0, .slice none 0 0, .slice none 0 0, .slice none 0 0, .int .i64 0, .slice none 0 0, .slice none 0 0, .slice none 0 0, .int .i64 0, .slice none 0 0, .slice none 0 0, .slice none 0 0, .int .i64 0, .slice none 0 0] O (by kernel_rfl) rfl (Qa6 _ _ _ rfl) ?_
   rotate_left 3
   focus
    simp only [zG]
    go_simp
    have O' := Qba (g := w1.heap.size) (cs := #[.int .i64 0, .int .i64 0, .int .i64 0, .int .i64 0, .slice none 0 0, .slice none 0 0, .slice none 0 0, .slice none 0 0, .int .i64 0, .slice none 0 0, .slice none 0 0, .int .i64 0, .int .i64 0, .int .i64 0, .int .i64 0, .int .i64 0, .int .i64 0, .int .i64 0, .slice none 0 0, .slice none 0 0, .slice none 0 0, .int .i64 0, .slice none 0 0, .slice none 0 0, .slice none 0 0, .int .i64 0, .slice none 0 0, .slice none 0 0, .slice none 0 0, .int .i64 0, .slice none 0 0]) (t := 90) (w1) (by simp); have Q := Qbh Q (.cells #[.int .i64 0, .int .i64 0, .int .i64 0, .int .i64 0, .slice none 0 0, .slice none 0 0, .slice none 0 0, .slice none 0 0, .int .i64 0, .slice none 0 0, .slice none 0 0, .int .i64 0, .int .i64 0, .int .i64 0, .int .i64 0, .int .i64 0, .int .i64 0, .int .i64 0, .slice none 0 0, .slice none 0 0, .slice none 0 0, .int .i64 0, .slice none 0 0, .slice none 0 0, .slice none 0 0, .int .i64 0, .slice none 0 0, .slice none 0 0, .slice none 0 0, .int .i64 0, .slice none 0 0] 90) (g := w1.heap.size) (by simp); have hPl := Qcn I.p3.lt (g := w1.heap.size) (by simp); have I := I.below (Qab (Below.refl _ _) (.cells #[.int .i64 0, .int .i64 0, .int .i64 0, .int .i64 0, .slice none 0 0, .slice none 0 0, .slice none 0 0, .slice none 0 0, .int .i64 0, .slice none 0 0, .slice none 0 0, .int .i64 0, .int .i64 0, .int .i64 0, .int .i64 0, .int .i64 0, .int .i64 0, .int .i64 0, .slice none 0 0, .slice none 0 0, .slice none 0 0, .int .i64 0, .slice none 0 0, .slice none 0 0, .slice none 0 0, .int .i64 0, .slice none 0 0, .slice none 0 0, .slice none 0 0, .int .i64 0, .slice none 0 0] 90)); have O := O'; clear O'
    refine hK.out _ _ ⟨I.p1, I.p2, I.p1.cell (i := 13) rfl⟩ fun hH => ?_; clear hK K; try simp only [zX,zY]
    generalize World.alloc w1 (.cells #[.int .i64 0, .int .i64 0, .int .i64 0, .int .i64 0, .slice none 0 0, .slice none 0 0, .slice none 0 0, .slice none 0 0, .int .i64 0, .slice none 0 0, .slice none 0 0, .int .i64 0, .int .i64 0, .int .i64 0, .int .i64 0, .int .i64 0, .int .i64 0, .int .i64 0, .slice none 0 0, .slice none 0 0, .slice none 0 0, .int .i64 0, .slice none 0 0, .slice none 0 0, .slice none 0 0, .int .i64 0, .slice none 0 0, .slice none 0 0, .slice none 0 0, .int .i64 0, .slice none 0 0] 90) = v13 at *
    refine zR2 6 8 (fun K hK => ?_) (fun K hK => ?_)
    focus
     simp only [zG]
     go_simp
     refine (Qb9 q (p.vs.length : Int) _).mono ?_; rintro e w2 ⟨rfl, g2⟩; have Q := Qa1 Q g2; have I := I.below g2; have O := O.below g2 O.lt; clear g2
     refine hK.out _ _ ⟨I.p1, I.p2, I.p1.cell (i := 13) rfl⟩ fun hH => ?_; clear hK K; try simp only [zX,zY]
     refine zR1 8 (fun K hK => ?_)
     simp only [zG]
     simp only [rpcC]
     go_simp
     have B' := Qba (g := w2.heap.size) (cs := #[.int .i64 r.kind, .int .i64 r.frm, .int .i64 r.too, .int .i64 r.term, .int .i64 r.index, .int .i64 r.iterm, .int .i64 r.commit, .slice r.A r.l.length r.cap, .bool r.ok, .string r.snap]) (t := 64) (w2) (by simp); have Q := Qa1 Q (Qab (Below.refl _ _) (.cells #[.int .i64 r.kind, .int .i64 r.frm, .int .i64 r.too, .int .i64 r.term, .int .i64 r.index, .int .i64 r.iterm, .int .i64 r.commit, .slice r.A r.l.length r.cap, .bool r.ok, .string r.snap] 64)); have O := O.alloc (.cells #[.int .i64 r.kind, .int .i64 r.frm, .int .i64 r.too, .int .i64 r.term, .int .i64 r.index, .int .i64 r.iterm, .int .i64 r.commit, .slice r.A r.l.length r.cap, .bool r.ok, .string r.snap] 64); have I := I.below (Qab (Below.refl _ _) (.cells #[.int .i64 r.kind, .int .i64 r.frm, .int .i64 r.too, .int .i64 r.term, .int .i64 r.index, .int .i64 r.iterm, .int .i64 r.commit, .slice r.A r.l.length r.cap, .bool r.ok, .string r.snap] 64)); have B := B'; clear B'
     refine hK.out _ _ ⟨I.p1, I.p2, I.p1.cell (i := 13) rfl⟩ fun hH => ?_; clear hK K; try simp only [zX,zY]
     generalize World.alloc w2 (.cells #[.int .i64 r.kind, .int .i64 r.frm, .int .i64 r.too, .int .i64 r.term, .int .i64 r.index, .int .i64 r.iterm, .int .i64 r.commit, .slice r.A r.l.length r.cap, .bool r.ok, .string r.snap] 64) = v8 at *
     refine zR1 9 (fun K hK => ?_)
     simp only [zG]
     go_simp
     refine (Qc3 w p q r (w1.heap.size) (w2.heap.size) 64 (p.vs.length : Int) hf hr _ sq Q O.lt I.p3.lt B (HR.out.below I.bl)).mono ?_; rintro e w3 ⟨q', rfl, sq', oq', g3⟩; have I := I.below g3; have O := O.below g3 O.lt; clear g3 Q sq
     refine hK.out _ _ ⟨I.p1, I.p2, I.p1.cell (i := 13) rfl⟩ fun hH => ?_; clear hK K; try simp only [zX,zY]
     refine ztk [10,11,12] ?_; repeat (refine ztn (h := ?_); try simp only [zX,zY])
     refine zte ?_
     refine zR1 14 (fun K hK => ?_)
     simp only [zG]
     rw [if_pos (by rfl)]
     refine wp_store_row 90 _ _ rfl (w1.heap.size) (Qbs q' (p.vs.length : Int) (Qbp q')) rfl rfl 90 #[.int .i64 0, .int .i64 0, .int .i64 0, .int .i64 0, .slice none 0 0, .slice none 0 0, .slice none 0 0, .slice none 0 0, .int .i64 0, .slice none 0 0, .slice none 0 0, .int .i64 0, .int .i64 0, .int .i64 0, .int .i64 0, .int .i64 0, .int .i64 0, .int .i64 0, .slice none 0 0, .slice none 0 0, .slice none 0 0, .int .i64 0, .slice none 0 0, .slice none 0 0, .slice none 0 0, .int .i64 0, .slice none 0 0, .slice none 0 0, .slice none 0 0, .int .i64 0, .slice none 0 0] O (by kernel_rfl) rfl (Qa6 _ _ _ rfl) ?_
    rotate_left
    focus
     simp only [zG]
     simp only [rpcC]
     go_simp
     have B' := Qba (g := v13.heap.size) (cs := #[.int .i64 r.kind, .int .i64 r.frm, .int .i64 r.too, .int .i64 r.term, .int .i64 r.index, .int .i64 r.iterm, .int .i64 r.commit, .slice r.A r.l.length r.cap, .bool r.ok, .string r.snap]) (t := 64) (v13) (by simp); have Q := Qa1 Q (Qab (Below.refl _ _) (.cells #[.int .i64 r.kind, .int .i64 r.frm, .int .i64 r.too, .int .i64 r.term, .int .i64 r.index, .int .i64 r.iterm, .int .i64 r.commit, .slice r.A r.l.length r.cap, .bool r.ok, .string r.snap] 64)); have O := O.alloc (.cells #[.int .i64 r.kind, .int .i64 r.frm, .int .i64 r.too, .int .i64 r.term, .int .i64 r.index, .int .i64 r.iterm, .int .i64 r.commit, .slice r.A r.l.length r.cap, .bool r.ok, .string r.snap] 64); have I := I.below (Qab (Below.refl _ _) (.cells #[.int .i64 r.kind, .int .i64 r.frm, .int .i64 r.too, .int .i64 r.term, .int .i64 r.index, .int .i64 r.iterm, .int .i64 r.commit, .slice r.A r.l.length r.cap, .bool r.ok, .string r.snap] 64)); have B := B'; clear B'
     refine hK.out _ _ ⟨I.p1, I.p2, I.p1.cell (i := 13) rfl⟩ fun hH => ?_; clear hK K; try simp only [zX,zY]
     generalize World.alloc v13 (.cells #[.int .i64 r.kind, .int .i64 r.frm, .int .i64 r.too, .int .i64 r.term, .int .i64 r.index, .int .i64 r.iterm, .int .i64 r.commit, .slice r.A r.l.length r.cap, .bool r.ok, .string r.snap] 64) = v8 at *
     refine zR1 6 (fun K hK => ?_)
     simp only [zG]
     go_simp
     refine (Qb9 q (p.vs.length : Int) _).mono ?_; rintro e w2 ⟨rfl, g2⟩; have Q := Qa1 Q g2; have I := I.below g2; have O := O.below g2 O.lt; have B := B.below g2 B.lt; clear g2
     refine hK.out _ _ ⟨I.p1, I.p2, I.p1.cell (i := 13) rfl⟩ fun hH => ?_; clear hK K; try simp only [zX,zY]
     refine zR1 9 (fun K hK => ?_)
     simp only [zG]
     go_simp
     refine (Qc3 w p q r (w1.heap.size) (v13.heap.size) 64 (p.vs.length : Int) hf hr _ sq Q O.lt I.p3.lt B (HR.out.below I.bl)).mono ?_; rintro e w3 ⟨q', rfl, sq', oq', g3⟩; have I := I.below g3; have O := O.below g3 O.lt; clear g3 Q sq
     refine hK.out _ _ ⟨I.p1, I.p2, I.p1.cell (i := 13) rfl⟩ fun hH => ?_; clear hK K; try simp only [zX,zY]
     refine ztk [10,11,12] ?_; repeat (refine ztn (h := ?_); try simp only [zX,zY])
     refine zte ?_
     refine zR1 14 (fun K hK => ?_)
     simp only [zG]
     rw [if_pos (by rfl)]
     refine wp_store_row 90 _ _ rfl (w1.heap.size) (Qbs q' (p.vs.length : Int) (Qbp q')) rfl rfl 90 #[.int .i64 0, .int .i64 0, .int .i64 0, .int .i64 0, .slice none 0 0, .slice none 0 0, .slice none 0 0, .slice none 0 0, .int .i64 0, .slice none 0 0, .slice none 0 0, .int .i64 0, .int .i64 0, .int .i64 0, .int .i64 0, .int .i64 0, .int .i64 0, .int .i64 0, .slice none 0 0, .slice none 0 0, .slice none 0 0, .int .i64 0, .slice none 0 0, .slice none 0 0, .slice none 0 0, .int .i64 0, .slice none 0 0, .slice none 0 0, .slice none 0 0, .int .i64 0, .slice none 0 0] O (by kernel_rfl) rfl (Qa6 _ _ _ rfl) ?_
  rotate_left 8
  focus
   simp only [zG]
   simp only [rpcC]
   go_simp
   have B' := Qba (g := u0.heap.size) (cs := #[.int .i64 r.kind, .int .i64 r.frm, .int .i64 r.too, .int .i64 r.term, .int .i64 r.index, .int .i64 r.iterm, .int .i64 r.commit, .slice r.A r.l.length r.cap, .bool r.ok, .string r.snap]) (t := 64) (u0) (by simp); have I := I.below (Qab (Below.refl _ _) (.cells #[.int .i64 r.kind, .int .i64 r.frm, .int .i64 r.too, .int .i64 r.term, .int .i64 r.index, .int .i64 r.iterm, .int .i64 r.commit, .slice r.A r.l.length r.cap, .bool r.ok, .string r.snap] 64)); have B := B'; clear B'
   refine hK.out _ _ ⟨I.p1, I.p2, I.p1.cell (i := 13) rfl⟩ fun hH => ?_; clear hK K; try simp only [zX,zY]
   generalize World.alloc u0 (.cells #[.int .i64 r.kind, .int .i64 r.frm, .int .i64 r.too, .int .i64 r.term, .int .i64 r.index, .int .i64 r.iterm, .int .i64 r.commit, .slice r.A r.l.length r.cap, .bool r.ok, .string r.snap] 64) = v8 at *
   refine zR2 2 13 (fun K hK => ?_) (fun K hK => ?_)
   focus
    simp only [zG]
    go_simp
    refine (CP.out _ I.bl).mono ?_; rintro e w1 ⟨v1, rfl, hq, g1⟩; obtain ⟨q, rfl, sq, oq⟩ := hq; have Q := Qdz I.p3.lt (Nat.lt_of_le_of_lt (Nat.zero_le _) I.p1.lt) oq; have I := I.below g1; have B := B.below g1 B.lt; clear g1 oq
    refine hK.out _ _ ⟨I.p1, I.p2, I.p1.cell (i := 13) rfl⟩ fun hH => ?_; clear hK K; try simp only [zX,zY]
    refine zR2 6 13 (fun K hK => ?_) (fun K hK => ?_)
    focus
     simp only [zG]
     go_simp
     refine (Qb9 q (p.vs.length : Int) _).mono ?_; rintro e w2 ⟨rfl, g2⟩; have Q := Qa1 Q g2; have I := I.below g2; have B := B.below g2 B.lt; clear g2
     refine hK.out _ _ ⟨I.p1, I.p2, I.p1.cell (i := 13) rfl⟩ fun hH => ?_; clear hK K; try simp only [zX,zY]
     refine zR2 9 13 (fun K hK => ?_) (fun K hK => ?_)
     focus
      simp only [zG]
      go_simp
      refine (Qc3 w p q r (0) (u0.heap.size) 64 (p.vs.length : Int) hf hr _ sq Q (Nat.lt_of_le_of_lt (Nat.zero_le _) I.p1.lt) I.p3.lt B (HR.out.below I.bl)).mono ?_; rintro e w3 ⟨q', rfl, sq', oq', g3⟩; have I := I.below g3; clear g3 Q sq
      refine hK.out _ _ ⟨I.p1, I.p2, I.p1.cell (i := 13) rfl⟩ fun hH => ?_; clear hK K; try simp only [zX,zY]
      refine ztk [10,11,12] ?_; repeat (refine ztn (h := ?_); try simp only [zX,zY])
      refine zte ?_
      refine zR1 13 (fun K hK => ?_)
      simp only [zG]
      go_simp
      have O' := Qba (g := w3.heap.size) (cs := #[.int .i64 0, .int .i64 0, .int .i64 0, .int .i64 0, .slice none 0 0, .slice none 0 0, .slice none 0 0, .slice none 0 0, .int .i64 0, .slice none 0 0, .slice none 0 0, .int .i64 0, .int .i64 0, .int .i64 0, .int .i64 0, .int .i64 0, .int .i64 0, .int .i64 0, .slice none 0 0, .slice none 0 0, .slice none 0 0, .int .i64 0, .slice none 0 0, .slice none 0 0, .slice none 0 0, .int .i64 0, .slice none 0 0, .slice none 0 0, .slice none 0 0, .int .i64 0, .slice none 0 0]) (t := 90) (w3) (by simp); have oq' := Qbh oq' (.cells #[.int .i64 0, .int .i64 0, .int .i64 0, .int .i64 0, .slice none 0 0, .slice none 0 0, .slice none 0 0, .slice none 0 0, .int .i64 0, .slice none 0 0, .slice none 0 0, .int .i64 0, .int .i64 0, .int .i64 0, .int .i64 0, .int .i64 0, .int .i64 0, .int .i64 0, .slice none 0 0, .slice none 0 0, .slice none 0 0, .int .i64 0, .slice none 0 0, .slice none 0 0, .slice none 0 0, .int .i64 0, .slice none 0 0, .slice none 0 0, .slice none 0 0, .int .i64 0, .slice none 0 0] 90) (g := w3.heap.size) (by simp); have hPl := Qcn I.p3.lt (g := w3.heap.size) (by simp); have B := B.alloc (.cells #[.int .i64 0, .int .i64 0, .int .i64 0, .int .i64 0, .slice none 0 0, .slice none 0 0, .slice none 0 0, .slice none 0 0, .int .i64 0, .slice none 0 0, .slice none 0 0, .int .i64 0, .int .i64 0, .int .i64 0, .int .i64 0, .int .i64 0, .int .i64 0, .int .i64 0, .slice none 0 0, .slice none 0 0, .slice none 0 0, .int .i64 0, .slice none 0 0, .slice none 0 0, .slice none 0 0, .int .i64 0, .slice none 0 0, .slice none 0 0, .slice none 0 0, .int .i64 0, .slice none 0 0] 90); have I := I.below (Qab (Below.refl _ _) (.cells #[.int .i64 0, .int .i64 0, .int .i64 0, .int .i64 0, .slice none 0 0, .slice none 0 0, .slice none 0 0, .slice none 0 0, .int .i64 0, .slice none 0 0, .slice none 0 0, .int .i64 0, .int .i64 0, .int .i64 0, .int .i64 0, .int .i64 0, .int .i64 0, .int .i64 0, .slice none 0 0, .slice none 0 0, .slice none 0 0, .int .i64 0, .slice none 0 0, .slice none 0 0, .slice none 0 0, .int .i64 0, .slice none 0 0, .slice none 0 0, .slice none 0 0, .int .i64 0, .slice none 0 0] 90)); have O := O'; clear O'
      refine hK.out _ _ ⟨I.p1, I.p2, I.p1.cell (i := 13) rfl⟩ fun hH => ?_; clear hK K; try simp only [zX,zY]
      generalize World.alloc w3 (.cells #[.int .i64 0, .int .i64 0, .int .i64 0, .int .i64 0, .slice none 0 0, .slice none 0 0, .slice none 0 0, .slice none 0 0, .int .i64 0, .slice none 0 0, .slice none 0 0, .int .i64 0, .int .i64 0, .int .i64 0, .int .i64 0, .int .i64 0, .int .i64 0, .int .i64 0, .slice none 0 0, .slice none 0 0, .slice none 0 0, .int .i64 0, .slice none 0 0, .slice none 0 0, .slice none 0 0, .int .i64 0, .slice none 0 0, .slice none 0 0, .slice none 0 0, .int .i64 0, .slice none 0 0] 90) = v13 at *
      refine zR1 14 (fun K hK => ?_)
      simp only [zG]
      rw [if_pos (by rfl)]
      refine wp_store_row 90 _ _ rfl (w3.heap.size) (Qbs q' (p.vs.length : Int) (Qbp q')) rfl rfl 90 #[.int .i64 0, .int .i64 0, .int .i64 0, .int .i64 0, .slice none 0 0, .slice none 0 0, .slice none 0 0, .slice none 0 0, .int .i64 0, .slice none 0 0, .slice none 0 0, .int .i64 0, .int .i64 0, .int .i64 0, .int .i64 0, .int .i64 0, .int .i64 0, .int .i64 0, .slice none 0 0, .slice none 0 0, .slice none 0 0, .int .i64 0, .slice none 0 0, .slice none 0 0, .slice none 0 0, .int .i64 0, .slice none 0 0, .slice none 0 0, .slice none 0 0, .int .i64 0, .slice none 0 0] O (by kernel_rfl) rfl (Qa6 _ _ _ rfl) ?_
     rotate_left
     focus
      simp only [zG]
      go_simp
      have O' := Qba (g := w2.heap.size) (cs := #[.int .i64 0, .int .i64 0, .int .i64 0, .int .i64 0, .slice none 0 0, .slice none 0 0, .slice none 0 0, .slice none 0 0, .int .i64 0, .slice none 0 0, .slice none 0 0, .int .i64 0, .int .i64 0, .int .i64 0, .int .i64 0, .int .i64 0, .int .i64 0, .int .i64 0, .slice none 0 0, .slice none 0 0, .slice none 0 0, .int .i64 0, .slice none 0 0, .slice none 0 0, .slice none 0 0, .int .i64 0, .slice none 0 0, .slice none 0 0, .slice none 0 0, .int .i64 0, .slice none 0 0]) (t := 90) (w2) (by simp); have Q := Qbh Q (.cells #[.int .i64 0, .int .i64 0, .int .i64 0, .int .i64 0, .slice none 0 0, .slice none 0 0, .slice none 0 0, .slice none 0 0, .int .i64 0, .slice none 0 0, .slice none 0 0, .int .i64 0, .int .i64 0, .int .i64 0, .int .i64 0, .int .i64 0, .int .i64 0, .int .i64 0, .slice none 0 0, .slice none 0 0, .slice none 0 0, .int .i64 0, .slice none 0 0, .slice none 0 0, .slice none 0 0, .int .i64 0, .slice none 0 0, .slice none 0 0, .slice none 0 0, .int .i64 0, .slice none 0 0] 90) (g := w2.heap.size) (by simp); have hPl := Qcn I.p3.lt (g := w2.heap.size) (by simp); have B := B.alloc (.cells #[.int .i64 0, .int .i64 0, .int .i64 0, .int .i64 0, .slice none 0 0, .slice none 0 0, .slice none 0 0, .slice none 0 0, .int .i64 0, .slice none 0 0, .slice none 0 0, .int .i64 0, .int .i64 0, .int .i64 0, .int .i64 0, .int .i64 0, .int .i64 0, .int .i64 0, .slice none 0 0, .slice none 0 0, .slice none 0 0, .int .i64 0, .slice none 0 0, .slice none 0 0, .slice none 0 0, .int .i64 0, .slice none 0 0, .slice none 0 0, .slice none 0 0, .int .i64 0, .slice none 0 0] 90); have I := I.below (Qab (Below.refl _ _) (.cells #[.int .i64 0, .int .i64 0, .int .i64 0, .int .i64 0, .slice none 0 0, .slice none 0 0, .slice none 0 0, .slice none 0 0, .int .i64 0, .slice none 0 0, .slice none 0 0, .int .i64 0, .int .i64 0, .int .i64 0, .int .i64 0, .int .i64 0, .int .i64 0, .int .i64 0, .slice none 0 0, .slice none 0 0, .slice none 0 0, .int .i64 0, .slice none 0 0, .slice none 0 0, .slice none 0 0, .int .i64 0, .slice none 0 0, .slice none 0 0, .slice none 0 0, .int .i64 0, .slice none 0 0] 90)); have O := O'; clear O'
      refine hK.out _ _ ⟨I.p1, I.p2, I.p1.cell (i := 13) rfl⟩ fun hH => ?_; clear hK K; try simp only [zX,zY]
      generalize World.alloc w2 (.cells #[.int .i64 0, .int .i64 0, .int .i64 0, .int .i64 0, .slice none 0 0, .slice none 0 0, .slice none 0 0, .slice none 0 0, .int .i64 0, .slice none 0 0, .slice none 0 0, .int .i64 0, .int .i64 0, .int .i64 0, .int .i64 0, .int .i64 0, .int .i64 0, .int .i64 0, .slice none 0 0, .slice none 0 0, .slice none 0 0, .int .i64 0, .slice none 0 0, .slice none 0 0, .slice none 0 0, .int .i64 0, .slice none 0 0, .slice none 0 0, .slice none 0 0, .int .i64 0, .slice none 0 0] 90) = v13 at *
      refine zR1 9 (fun K hK => ?_)
      simp only [zG]
      go_simp
      refine (Qc3 w p q r (w2.heap.size) (u0.heap.size) 64 (p.vs.length : Int) hf hr _ sq Q O.lt I.p3.lt B (HR.out.below I.bl)).mono ?_; rintro e w3 ⟨q', rfl, sq', oq', g3⟩; have I := I.below g3; have O := O.below g3 O.lt; clear g3 Q sq
      refine hK.out _ _ ⟨I.p1, I.p2, I.p1.cell (i := 13) rfl⟩ fun hH => ?_; clear hK K; try simp only [zX,zY]
      refine ztk [10,11,12] ?_; repeat (refine ztn (h := ?_); try simp only [zX,zY])
      refine zte ?_
      refine zR1 14 (fun K hK => ?_)
      simp only [zG]
      rw [if_pos (by rfl)]
      refine wp_store_row 90 _ _ rfl (w2.heap.size) (Qbs q' (p.vs.length : Int) (Qbp q')) rfl rfl 90 #[.int .i64 0, .int .i64 0, .int .i64 0, .int .i64 0, .slice none 0 0, .slice none 0 0, .slice none 0 0, .slice none 0 0, .int .i64 0, .slice none 0 0, .slice none 0 0, .int .i64 0, .int .i64 0, .int .i64 0, .int .i64 0, .int .i64 0, .int .i64 0, .int .i64 0, .slice none 0 0, .slice none 0 0, .slice none 0 0, .int .i64 0, .slice none 0 0, .slice none 0 0, .slice none 0 0, .int .i64 0, .slice none 0 0, .slice none 0 0, .slice none 0 0, .int .i64 0, .slice none 0 0] O (by kernel_rfl) rfl (Qa6 _ _ _ rfl) ?_
    rotate_left 2
    focus
     simp only [zG]
     go_simp
     have O' := Qba (g := w1.heap.size) (cs := #[.int .i64 0, .int .i64 0, .int .i64 0, .int .i64 0, .slice none 0 0, .slice none 0 0, .slice none 0 0, .slice none 0 0, .int .i64 0, .slice none 0 0, .slice none 0 0, .int .i64 0, .int .i64 0, .int .i64 0, .int .i64 0, .int .i64 0, .int .i64 0, .int .i64 0, .slice none 0 0, .slice none 0 0, .slice none 0 0, .int .i64 0, .slice none 0 0, .slice none 0 0, .slice none 0 0, .int .i64 0, .slice none 0 0, .slice none 0 0, .slice none 0 0, .int .i64 0, .slice none 0 0]) (t := 90) (w1) (by simp); have Q := Qbh Q (.cells #[.int .i64 0, .int .i64 0, .int .i64 0, .int .i64 0, .slice none 0 0, .slice none 0 0, .slice none 0 0, .slice none 0 0, .int .i64 0, .slice none 0 0, .slice none 0 0, .int .i64 0, .int .i64 0, .int .i64 0, .int .i64 0, .int .i64 0, .int .i64 0, .int .i64 0, .slice none 0 0, .slice none 0 0, .slice none 0 0, .int .i64 0, .slice none 0 0, .slice none 0 0, .slice none 0 0, .int .i64 0, .slice none 0 0, .slice none 0 0, .slice none 0 0, .int .i64 0, .slice none 0 0] 90) (g := w1.heap.size) (by simp); have hPl := Qcn I.p3.lt (g := w1.heap.size) (by simp); have B := B.alloc (.cells #[.int .i64 0, .int .i64 0, .int .i64 0, .int .i64 0, .slice none 0 0, .slice none 0 0, .slice none 0 0, .slice none 0 0, .int .i64 0, .slice none 0 0, .slice none 0 0, .int .i64 0, .int .i64 0, .int .i64 0, .int .i64 0, .int .i64 0, .int .i64 0, .int .i64 0, .slice none 0 0, .slice none 0 0, .slice none 0 0, .int .i64 0, .slice none 0 0, .slice none 0 0, .slice none 0 0, .int .i64 0, .slice none 0 0, .slice none 0 0, .slice none 0 0, .int .i64 0, .slice none 0 0] 90); have I := I.below (Qab (Below.refl _ _) (.cells #[.int .i64 0, .int .i64 0, .int .i64 0, .int .i64 0, .slice none 0 0, .slice none 0 0, .slice none 0 0, .slice none 0 0, .int .i64 0, .slice none 0 0, .slice none 0 0, .int .i64 0, .int .i64 0, .int .i64 0, .int .i64 0, .int .i64 0, .int .i64 0, .int .i64 0, .slice none 0 0, .slice none 0 0, .slice none 0 0, .int .i64 0, .slice none 0 0, .slice none 0 0, .slice none 0 0, .int .i64 0, .slice none 0 0, .slice none 0 0, .slice none 0 0, .int .i64 0, .slice none 0 0] 90)); have O := O'; clear O'
     refine hK.out _ _ ⟨I.p1, I.p2, I.p1.cell (i := 13) rfl⟩ fun hH => ?_; clear hK K; try simp only [zX,zY]
     generalize World.alloc w1 (.cells #[.int .i64 0, .int .i64 0, .int .i64 0, .int .i64 0, .slice none 0 0, .slice none 0 0, .slice none 0 0, .slice none 0 0, .int .i64 0, .slice none 0 0, .slice none 0 0, .int .i64 0, .int .i64 0, .int .i64 0, .int .i64 0, .int .i64 0, .int .i64 0, .int .i64 0, .slice none 0 0, .slice none 0 0, .slice none 0 0, .int .i64 0, .slice none 0 0, .slice none 0 0, .slice none 0 0, .int .i64 0, .slice none 0 0, .slice none 0 0, .slice none 0 0, .int .i64 0, .slice none 0 0] 90) = v13 at *
     refine zR1 6 (fun K hK => ?_)
     simp only [zG]
     go_simp
     refine (Qb9 q (p.vs.length : Int) _).mono ?_; rintro e w2 ⟨rfl, g2⟩; have Q := Qa1 Q g2; have I := I.below g2; have O := O.below g2 O.lt; have B := B.below g2 B.lt; clear g2
     refine hK.out _ _ ⟨I.p1, I.p2, I.p1.cell (i := 13) rfl⟩ fun hH => ?_; clear hK K; try simp only [zX,zY]
     refine zR1 9 (fun K hK => ?_)
     simp only [zG]
     go_simp
     refine (Qc3 w p q r (w1.heap.size) (u0.heap.size) 64 (p.vs.length : Int) hf hr _ sq Q O.lt I.p3.lt B (HR.out.below I.bl)).mono ?_; rintro e w3 ⟨q', rfl, sq', oq', g3⟩; have I := I.below g3; have O := O.below g3 O.lt; clear g3 Q sq
     refine hK.out _ _ ⟨I.p1, I.p2, I.p1.cell (i := 13) rfl⟩ fun hH => ?_; clear hK K; try simp only [zX,zY]
     refine ztk [10,11,12] ?_; repeat (refine ztn (h := ?_); try simp only [zX,zY])
     refine zte ?_
     refine zR1 14 (fun K hK => ?_)
     simp only [zG]
     rw [if_pos (by rfl)]
     refine wp_store_row 90 _ _ rfl (w1.heap.size) (Qbs q' (p.vs.length : Int) (Qbp q')) rfl rfl 90 #[.int .i64 0, .int .i64 0, .int .i64 0, .int .i64 0, .slice none 0 0, .slice none 0 0, .slice none 0 0, .slice none 0 0, .int .i64 0, .slice none 0 0, .slice none 0 0, .int .i64 0, .int .i64 0, .int .i64 0, .int .i64 0, .int .i64 0, .int .i64 0, .int .i64 0, .slice none 0 0, .slice none 0 0, .slice none 0 0, .int .i64 0, .slice none 0 0, .slice none 0 0, .slice none 0 0, .int .i64 0, .slice none 0 0, .slice none 0 0, .slice none 0 0, .int .i64 0, .slice none 0 0] O (by kernel_rfl) rfl (Qa6 _ _ _ rfl) ?_
   rotate_left 3
   focus
    simp only [zG]
    go_simp
    have O' := Qba (g := v8.heap.size) (cs := #[.int .i64 0, .int .i64 0, .int .i64 0, .int .i64 0, .slice none 0 0, .slice none 0 0, .slice none 0 0, .slice none 0 0, .int .i64 0, .slice none 0 0, .slice none 0 0, .int .i64 0, .int .i64 0, .int .i64 0, .int .i64 0, .int .i64 0, .int .i64 0, .int .i64 0, .slice none 0 0, .slice none 0 0, .slice none 0 0, .int .i64 0, .slice none 0 0, .slice none 0 0, .slice none 0 0, .int .i64 0, .slice none 0 0, .slice none 0 0, .slice none 0 0, .int .i64 0, .slice none 0 0]) (t := 90) (v8) (by simp); have hPl := Qcn I.p3.lt (g := v8.heap.size) (by simp); have B := B.alloc (.cells #[.int .i64 0, .int .i64 0, .int .i64 0, .int .i64 0, .slice none 0 0, .slice none 0 0, .slice none 0 0, .slice none 0 0, .int .i64 0, .slice none 0 0, .slice none 0 0, .int .i64 0, .int .i64 0, .int .i64 0, .int .i64 0, .int .i64 0, .int .i64 0, .int .i64 0, .slice none 0 0, .slice none 0 0, .slice none 0 0, .int .i64 0, .slice none 0 0, .slice none 0 0, .slice none 0 0, .int .i64 0, .slice none 0 0, .slice none 0 0, .slice none 0 0, .int .i64 0, .slice none 0 0] 90); have I := I.below (Qab (Below.refl _ _) (.cells #[.int .i64 0, .int .i64 0, .int .i64 0, .int .i64 0, .slice none 0 0, .slice none 0 0, .slice none 0 0, .slice none 0 0, .int .i64 0, .slice none 0 0, .slice none 0 0, .int .i64 0, .int .i64 0, .int .i64 0, .int .i64 0, .int .i64 0, .int .i64 0, .int .i64 0, .slice none 0 0, .slice none 0 0, .slice none 0 0, .int .i64 0, .slice none 0 0, .slice none 0 0, .slice none 0 0, .int .i64 0, .slice none 0 0, .slice none 0 0, .slice none 0 0, .int .i64 0, .slice none 0 0] 90)); have O := O'; clear O'
    refine hK.out _ _ ⟨I.p1, I.p2, I.p1.cell (i := 13) rfl⟩ fun hH => ?_; clear hK K; try simp only [zX,zY]
    generalize World.alloc v8 (.cells #[.int .i64 0, .int .i64 0, .int .i64 0, .int .i64 0, .slice none 0 0, .slice none 0 0, .slice none 0 0, .slice none 0 0, .int .i64 0, .slice none 0 0, .slice none 0 0, .int .i64 0, .int .i64 0, .int .i64 0, .int .i64 0, .int .i64 0, .int .i64 0, .int .i64 0, .slice none 0 0, .slice none 0 0, .slice none 0 0, .int .i64 0, .slice none 0 0, .slice none 0 0, .slice none 0 0, .int .i64 0, .slice none 0 0, .slice none 0 0, .slice none 0 0, .int .i64 0, .slice none 0 0] 90) = v13 at *
    refine zR1 2 (fun K hK => ?_)
    simp only [zG]
    go_simp
    refine (CP.out _ I.bl).mono ?_; rintro e w1 ⟨v1, rfl, hq, g1⟩; obtain ⟨q, rfl, sq, oq⟩ := hq; have Q := Qdz I.p3.lt O.lt oq; have I := I.below g1; have O := O.below g1 O.lt; have B := B.below g1 B.lt; clear g1 oq
    refine hK.out _ _ ⟨I.p1, I.p2, I.p1.cell (i := 13) rfl⟩ fun hH => ?_; clear hK K; try simp only [zX,zY]
    refine zR1 6 (fun K hK => ?_)
    simp only [zG]
    go_simp
    refine (Qb9 q (p.vs.length : Int) _).mono ?_; rintro e w2 ⟨rfl, g2⟩; have Q := Qa1 Q g2; have I := I.below g2; have O := O.below g2 O.lt; have B := B.below g2 B.lt; clear g2
    refine hK.out _ _ ⟨I.p1, I.p2, I.p1.cell (i := 13) rfl⟩ fun hH => ?_; clear hK K; try simp only [zX,zY]
    refine zR1 9 (fun K hK => ?_)
    simp only [zG]
    go_simp
    refine (Qc3 w p q r (v8.heap.size) (u0.heap.size) 64 (p.vs.length : Int) hf hr _ sq Q O.lt I.p3.lt B (HR.out.below I.bl)).mono ?_; rintro e w3 ⟨q', rfl, sq', oq', g3⟩; have I := I.below g3; have O := O.below g3 O.lt; clear g3 Q sq
    refine hK.out _ _ ⟨I.p1, I.p2, I.p1.cell (i := 13) rfl⟩ fun hH => ?_; clear hK K; try simp only [zX,zY]
    refine ztk [10,11,12] ?_; repeat (refine ztn (h := ?_); try simp only [zX,zY])
    refine zte ?_
    refine zR1 14 (fun K hK => ?_)
    simp only [zG]
    rw [if_pos (by rfl)]
    refine wp_store_row 90 _ _ rfl (v8.heap.size) (Qbs q' (p.vs.length : Int) (Qbp q')) rfl rfl 90 #[.int .i64 0, .int .i64 0, .int .i64 0, .int .i64 0, .slice none 0 0, .slice none 0 0, .slice none 0 0, .slice none 0 0, .int .i64 0, .slice none 0 0, .slice none 0 0, .int .i64 0, .int .i64 0, .int .i64 0, .int .i64 0, .int .i64 0, .int .i64 0, .int .i64 0, .slice none 0 0, .slice none 0 0, .slice none 0 0, .int .i64 0, .slice none 0 0, .slice none 0 0, .slice none 0 0, .int .i64 0, .slice none 0 0, .slice none 0 0, .slice none 0 0, .int .i64 0, .slice none 0 0] O (by kernel_rfl) rfl (Qa6 _ _ _ rfl) ?_
  rotate_left 4
  focus
   simp only [zG]
   go_simp
   have O' := Qba (g := u0.heap.size) (cs := #[.int .i64 0, .int .i64 0, .int .i64 0, .int .i64 0, .slice none 0 0, .slice none 0 0, .slice none 0 0, .slice none 0 0, .int .i64 0, .slice none 0 0, .slice none 0 0, .int .i64 0, .int .i64 0, .int .i64 0, .int .i64 0, .int .i64 0, .int .i64 0, .int .i64 0, .slice none 0 0, .slice none 0 0, .slice none 0 0, .int .i64 0, .slice none 0 0, .slice none 0 0, .slice none 0 0, .int .i64 0, .slice none 0 0, .slice none 0 0, .slice none 0 0, .int .i64 0, .slice none 0 0]) (t := 90) (u0) (by simp); have hPl := Qcn I.p3.lt (g := u0.heap.size) (by simp); have I := I.below (Qab (Below.refl _ _) (.cells #[.int .i64 0, .int .i64 0, .int .i64 0, .int .i64 0, .slice none 0 0, .slice none 0 0, .slice none 0 0, .slice none 0 0, .int .i64 0, .slice none 0 0, .slice none 0 0, .int .i64 0, .int .i64 0, .int .i64 0, .int .i64 0, .int .i64 0, .int .i64 0, .int .i64 0, .slice none 0 0, .slice none 0 0, .slice none 0 0, .int .i64 0, .slice none 0 0, .slice none 0 0, .slice none 0 0, .int .i64 0, .slice none 0 0, .slice none 0 0, .slice none 0 0, .int .i64 0, .slice none 0 0] 90)); have O := O'; clear O'
   refine hK.out _ _ ⟨I.p1, I.p2, I.p1.cell (i := 13) rfl⟩ fun hH => ?_; clear hK K; try simp only [zX,zY]
   generalize World.alloc u0 (.cells #[.int .i64 0, .int .i64 0, .int .i64 0, .int .i64 0, .slice none 0 0, .slice none 0 0, .slice none 0 0, .slice none 0 0, .int .i64 0, .slice none 0 0, .slice none 0 0, .int .i64 0, .int .i64 0, .int .i64 0, .int .i64 0, .int .i64 0, .int .i64 0, .int .i64 0, .slice none 0 0, .slice none 0 0, .slice none 0 0, .int .i64 0, .slice none 0 0, .slice none 0 0, .slice none 0 0, .int .i64 0, .slice none 0 0, .slice none 0 0, .slice none 0 0, .int .i64 0, .slice none 0 0] 90) = v13 at *
   refine zR2 2 8 (fun K hK => ?_) (fun K hK => ?_)
   focus
    simp only [zG]
    go_simp
    refine (CP.out _ I.bl).mono ?_; rintro e w1 ⟨v1, rfl, hq, g1⟩; obtain ⟨q, rfl, sq, oq⟩ := hq; have Q := Qdz I.p3.lt O.lt oq; have I := I.below g1; have O := O.below g1 O.lt; clear g1 oq
    refine hK.out _ _ ⟨I.p1, I.p2, I.p1.cell (i := 13) rfl⟩ fun hH => ?_; clear hK K; try simp only [zX,zY]
    refine zR2 6 8 (fun K hK => ?_) (fun K hK => ?_)
    focus
     simp only [zG]
     go_simp
     refine (Qb9 q (p.vs.length : Int) _).mono ?_; rintro e w2 ⟨rfl, g2⟩; have Q := Qa1 Q g2; have I := I.below g2; have O := O.below g2 O.lt; clear g2
     refine hK.out _ _ ⟨I.p1, I.p2, I.p1.cell (i := 13) rfl⟩ fun hH => ?_; clear hK K; try simp only [zX,zY]
     refine zR1 8 (fun K hK => ?_)
     simp only [zG]
     simp only [rpcC]
     go_simp
     have B' := Qba (g := w2.heap.size) (cs := #[.int .i64 r.kind, .int .i64 r.frm, .int .i64 r.too, .int .i64 r.term, .int .i64 r.index, .int .i64 r.iterm, .int .i64 r.commit, .slice r.A r.l.length r.cap, .bool r.ok, .string r.snap]) (t := 64) (w2) (by simp); have Q := Qa1 Q (Qab (Below.refl _ _) (.cells #[.int .i64 r.kind, .int .i64 r.frm, .int .i64 r.too, .int .i64 r.term, .int .i64 r.index, .int .i64 r.iterm, .int .i64 r.commit, .slice r.A r.l.length r.cap, .bool r.ok, .string r.snap] 64)); have O := O.alloc (.cells #[.int .i64 r.kind, .int .i64 r.frm, .int .i64 r.too, .int .i64 r.term, .int .i64 r.index, .int .i64 r.iterm, .int .i64 r.commit, .slice r.A r.l.length r.cap, .bool r.ok, .string r.snap] 64); have I := I.below (Qab (Below.refl _ _) (.cells #[.int .i64 r.kind, .int .i64 r.frm, .int .i64 r.too, .int .i64 r.term, .int .i64 r.index, .int .i64 r.iterm, .int .i64 r.commit, .slice r.A r.l.length r.cap, .bool r.ok, .string r.snap] 64)); have B := B'; clear B'
     refine hK.out _ _ ⟨I.p1, I.p2, I.p1.cell (i := 13) rfl⟩ fun hH => ?_; clear hK K; try simp only [zX,zY]
     generalize World.alloc w2 (.cells #[.int .i64 r.kind, .int .i64 r.frm, .int .i64 r.too, .int .i64 r.term, .int .i64 r.index, .int .i64 r.iterm, .int .i64 r.commit, .slice r.A r.l.length r.cap, .bool r.ok, .string r.snap] 64) = v8 at *
     refine zR1 9 (fun K hK => ?_)
     simp only [zG]
     go_simp
     refine (Qc3 w p q r (u0.heap.size) (w2.heap.size) 64 (p.vs.length : Int) hf hr _ sq Q O.lt I.p3.lt B (HR.out.below I.bl)).mono ?_; rintro e w3 ⟨q', rfl, sq', oq', g3⟩; have I := I.below g3; have O := O.below g3 O.lt; clear g3 Q sq
     refine hK.out _ _ ⟨I.p1, I.p2, I.p1.cell (i := 13) rfl⟩ fun hH => ?_; clear hK K; try simp only [zX,zY]
     refine ztk [10,11,12] ?_; repeat (refine ztn (h := ?_); try simp only [zX,zY])
     refine zte ?_
     refine zR1 14 (fun K hK => ?_)
     simp only [zG]
     rw [if_pos (by rfl)]
     refine wp_store_row 90 _ _ rfl (u0.heap.size) (Qbs q' (p.vs.length : Int) (Qbp q')) rfl rfl 90 #[.int .i64 0, .int .i64 0, .int .i64 0, .int .i64 0, .slice none 0 0, .slice none 0 0, .slice none 0 0, .slice none 0 0, .int .i64 0, .slice none 0 0, .slice none 0 0, .int .i64 0, .int .i64 0, .int .i64 0, .int .i64 0, .int .i64 0, .int .i64 0, .int .i64 0, .slice none 0 0, .slice none 0 0, .slice none 0 0, .int .i64 0, .slice none 0 0, .slice none 0 0, .slice none 0 0, .int .i64 0, .slice none 0 0, .slice none 0 0, .slice none 0 0, .int .i64 0, .slice none 0 0] O (by kernel_rfl) rfl (Qa6 _ _ _ rfl) ?_
    rotate_left
    focus
     simp only [zG]
     simp only [rpcC]
     go_simp
     have B' := Qba (g := w1.heap.size) (cs := #[.int .i64 r.kind, .int .i64 r.frm, .int .i64 r.too, .int .i64 r.term, .int .i64 r.index, .int .i64 r.iterm, .int .i64 r.commit, .slice r.A r.l.length r.cap, .bool r.ok, .string r.snap]) (t := 64) (w1) (by simp); have Q := Qa1 Q (Qab (Below.refl _ _) (.cells #[.int .i64 r.kind, .int .i64 r.frm, .int .i64 r.too, .int .i64 r.term, .int .i64 r.index, .int .i64 r.iterm, .int .i64 r.commit, .slice r.A r.l.length r.cap, .bool r.ok, .string r.snap] 64)); have O := O.alloc (.cells #[.int .i64 r.kind, .int .i64 r.frm, .int .i64 r.too, .int .i64 r.term, .int .i64 r.index, .int .i64 r.iterm, .int .i64 r.commit, .slice r.A r.l.length r.cap, .bool r.ok, .string r.snap] 64); have I := I.below (Qab (Below.refl _ _) (.cells #[.int .i64 r.kind, .int .i64 r.frm, .int .i64 r.too, .int .i64 r.term, .int .i64 r.index, .int .i64 r.iterm, .int .i64 r.commit, .slice r.A r.l.length r.cap, .bool r.ok, .string r.snap] 64)); have B := B'; clear B'
     refine hK.out _ _ ⟨I.p1, I.p2, I.p1.cell (i := 13) rfl⟩ fun hH => ?_; clear hK K; try simp only [zX,zY]
     generalize World.alloc w1 (.cells #[.int .i64 r.kind, .int .i64 r.frm, .int .i64 r.too, .int .i64 r.term, .int .i64 r.index, .int .i64 r.iterm, .int .i64 r.commit, .slice r.A r.l.length r.cap, .bool r.ok, .string r.snap] 64) = v8 at *
     refine zR1 6 (fun K hK => ?_)
     simp only [zG]
     go_simp
     refine (Qb9 q (p.vs.length : Int) _).mono ?_; rintro e w2 ⟨rfl, g2⟩; have Q := Qa1 Q g2; have I := I.below g2; have O := O.below g2 O.lt; have B := B.below g2 B.lt; clear g2
     refine hK.out _ _ ⟨I.p1, I.p2, I.p1.cell (i := 13) rfl⟩ fun hH => ?_; clear hK K; try simp only [zX,zY]
     refine zR1 9 (fun K hK => ?_)
     simp only [zG]
     go_simp
     refine (Qc3 w p q r (u0.heap.size) (w1.heap.size) 64 (p.vs.length : Int) hf hr _ sq Q O.lt I.p3.lt B (HR.out.below I.bl)).mono ?_; rintro e w3 ⟨q', rfl, sq', oq', g3⟩; have I := I.below g3; have O := O.below g3 O.lt; clear g3 Q sq
     refine hK.out _ _ ⟨I.p1, I.p2, I.p1.cell (i := 13) rfl⟩ fun hH => ?_; clear hK K; try simp only [zX,zY]
     refine ztk [10,11,12] ?_; repeat (refine ztn (h := ?_); try simp only [zX,zY])
     refine zte ?_
     refine zR1 14 (fun K hK => ?_)
     simp only [zG]
     rw [if_pos (by rfl)]
     refine wp_store_row 90 _ _ rfl (u0.heap.size) (Qbs q' (p.vs.length : Int) (Qbp q')) rfl rfl 90 #[.int .i64 0, .int .i64 0, .int .i64 0, .int .i64 0, .slice none 0 0, .slice none 0 0, .slice none 0 0, .slice none 0 0, .int .i64 0, .slice none 0 0, .slice none 0 0, .int .i64 0, .int .i64 0, .int .i64 0, .int .i64 0, .int .i64 0, .int .i64 0, .int .i64 0, .slice none 0 0, .slice none 0 0, .slice none 0 0, .int .i64 0, .slice none 0 0, .slice none 0 0, .slice none 0 0, .int .i64 0, .slice none 0 0, .slice none 0 0, .slice none 0 0, .int .i64 0, .slice none 0 0] O (by kernel_rfl) rfl (Qa6 _ _ _ rfl) ?_
   rotate_left 2
   focus
    simp only [zG]
    simp only [rpcC]
    go_simp
    have B' := Qba (g := v13.heap.size) (cs := #[.int .i64 r.kind, .int .i64 r.frm, .int .i64 r.too, .int .i64 r.term, .int .i64 r.index, .int .i64 r.iterm, .int .i64 r.commit, .slice r.A r.l.length r.cap, .bool r.ok, .string r.snap]) (t := 64) (v13) (by simp); have O := O.alloc (.cells #[.int .i64 r.kind, .int .i64 r.frm, .int .i64 r.too, .int .i64 r.term, .int .i64 r.index, .int .i64 r.iterm, .int .i64 r.commit, .slice r.A r.l.length r.cap, .bool r.ok, .string r.snap] 64); have I := I.below (Qab (Below.refl _ _) (.cells #[.int .i64 r.kind, .int .i64 r.frm, .int .i64 r.too, .int .i64 r.term, .int .i64 r.index, .int .i64 r.iterm, .int .i64 r.commit, .slice r.A r.l.length r.cap, .bool r.ok, .string r.snap] 64)); have B := B'; clear B'
    refine hK.out _ _ ⟨I.p1, I.p2, I.p1.cell (i := 13) rfl⟩ fun hH => ?_; clear hK K; try simp only [zX,zY]
    generalize World.alloc v13 (.cells #[.int .i64 r.kind, .int .i64 r.frm, .int .i64 r.too, .int .i64 r.term, .int .i64 r.index, .int .i64 r.iterm, .int .i64 r.commit, .slice r.A r.l.length r.cap, .bool r.ok, .string r.snap] 64) = v8 at *
    refine zR1 2 (fun K hK => ?_)
    simp only [zG]
    go_simp
    refine (CP.out _ I.bl).mono ?_; rintro e w1 ⟨v1, rfl, hq, g1⟩; obtain ⟨q, rfl, sq, oq⟩ := hq; have Q := Qdz I.p3.lt O.lt oq; have I := I.below g1; have O := O.below g1 O.lt; have B := B.below g1 B.lt; clear g1 oq
    refine hK.out _ _ ⟨I.p1, I.p2, I.p1.cell (i := 13) rfl⟩ fun hH => ?_; clear hK K; try simp only [zX,zY]
    refine zR1 6 (fun K hK => ?_)
    simp only [zG]
    go_simp
    refine (Qb9 q (p.vs.length : Int) _).mono ?_; rintro e w2 ⟨rfl, g2⟩; have Q := Qa1 Q g2; have I := I.below g2; have O := O.below g2 O.lt; have B := B.below g2 B.lt; clear g2
    refine hK.out _ _ ⟨I.p1, I.p2, I.p1.cell (i := 13) rfl⟩ fun hH => ?_; clear hK K; try simp only [zX,zY]
    refine zR1 9 (fun K hK => ?_)
    simp only [zG]
    go_simp
    refine (Qc3 w p q r (u0.heap.size) (v13.heap.size) 64 (p.vs.length : Int) hf hr _ sq Q O.lt I.p3.lt B (HR.out.below I.bl)).mono ?_; rintro e w3 ⟨q', rfl, sq', oq', g3⟩; have I := I.below g3; have O := O.below g3 O.lt; clear g3 Q sq
    refine hK.out _ _ ⟨I.p1, I.p2, I.p1.cell (i := 13) rfl⟩ fun hH => ?_; clear hK K; try simp only [zX,zY]
    refine ztk [10,11,12] ?_; repeat (refine ztn (h := ?_); try simp only [zX,zY])
    refine zte ?_
    refine zR1 14 (fun K hK => ?_)
    simp only [zG]
    rw [if_pos (by rfl)]
    refine wp_store_row 90 _ _ rfl (u0.heap.size) (Qbs q' (p.vs.length : Int) (Qbp q')) rfl rfl 90 #[.int .i64 0, .int .i64 0, .int .i64 0, .int .i64 0, .slice none 0 0, .slice none 0 0, .slice none 0 0, .slice none 0 0, .int .i64 0, .slice none 0 0, .slice none 0 0, .int .i64 0, .int .i64 0, .int .i64 0, .int .i64 0, .int .i64 0, .int .i64 0, .int .i64 0, .slice none 0 0, .slice none 0 0, .slice none 0 0, .int .i64 0, .slice none 0 0, .slice none 0 0, .slice none 0 0, .int .i64 0, .slice none 0 0, .slice none 0 0, .slice none 0 0, .int .i64 0, .slice none 0 0] O (by kernel_rfl) rfl (Qa6 _ _ _ rfl) ?_
  all_goals
   have I9 := I.row hPl.out (Qbs q' (p.vs.length : Int) (Qbp q'))
   refine hK.out _ _ ⟨I9.p1, I9.p2, I9.p1.cell (i := 13) rfl⟩ (fun hH => ?_)
   clear hK K
   try simp only [zX,zY]
   refine zt1 15 ?_; refine ztn (h := ?_); try simp only [zX,zY]
   refine zte ?_
   refine zdn ?_
   go_wp2_with fail
   go_meet
   exact mid_of I O hPl.out sq' oq'
 case rest =>
  clear I
  obtain ⟨P, q, rfl, rfl, O, I, sq, oq⟩ := hcut
  go_upto_region 2 with fail
  refine wp_region_lit ?_
  refine Qag rfl 90 _ rfl (b := P) rfl O Tryz.underlying90 (by kernel_rfl) ?_
  go_wp2_with fail
  refine (toldOfP q (p.vs.length : Int) _).mono ?_
  rintro e w1 ⟨rfl, g1⟩
  have I1 := I.below g1
  have HI := hidP I1
  have HQ := hidP (Qa1 oq g1)
  have HS := hidP sq
  have HB := hidP (I1.p3.row (Qaf q))
  clear I I1 oq sq O g1
  go_wp2_with (refine Qam rfl 59 _ _ rfl (g := w.heap.size + 1 + 1) (cells := Qaf q) rfl rfl HI.out.p3 (by kernel_rfl) ZS.out (Qa5 _) ?_)
  refine bodyPost_ret (v := .tuple #[.agg (Qaf q), .bool (decide (p.hs.length < 40))]) (Qb8 (fn := Tryz.f9) (p := 4) (q := 5) (by rfl) rfl rfl HB.out Tryz.underlying59 (by kernel_rfl)) rfl ?_
  have k := (Offp.refl (fun z => z = w.heap.size + 1 + 1) w1).row (b := w.heap.size + 1 + 1) rfl (Qaf q)
  have hk := k.size
  exact ⟨_, rfl, ⟨q, rfl, HS.out, (HQ.out.offp k (fun z hz e => by have h1 := hz.1; omega)).mono (fun z hz => ⟨by have h1 := hz.1; omega, by have h1 := hz.2.1; omega⟩)⟩, Qbx HI.out.bl (by omega) _⟩
end Go.Proofs.YtmdaammalacifaaGreat.Gen
