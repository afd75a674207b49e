/-
  The program's copies of a disk and of what stays, in memory of their own. No condition but that their lists have at most 1048576 records.
-/
import Derived.Test.YtmdaammalacifaaGreatKCi
import Derived.Test.YtmdaammalacifaaGreatLCut
set_option linter.unusedVariables false
set_option linter.unusedSimpArgs false
set_option maxRecDepth 100000
set_option maxHeartbeats 8000000
namespace Go.Proofs.YtmdaammalacifaaGreat.Gen
open ChangeShapes WideShapes ChangeAt RowKit Joins Deep Base
theorem Qfc {P : Program} {ops : Array Oper} {Q : Exit -> Act -> World -> Prop} {md : Region.Mode} {S : World -> Prop} {z i : Nat} {o : Oper} {n : Nat} {L : Array Bool} {a : Act} {w : World} (hz : L.getD z true = true) (hr : Region.ready md ops L = [i]) (ho : ops[i]? = some o)
 (h : ∀ K' : Act -> World -> Prop, Shut (∀ a w, Qbw P md ops Q S z n (L.setIfInBounds i true) a w -> K' a w) -> if Region.wanted o (yielded ops a.tmps) = true then Oper.wp P o a w K' Q else K' (a.put o.dst undef) w) :
 Qbw P md ops Q S z (n + 1) L a w := by
 refine ⟨fun h0 => (by rw [hr] at h0; cases h0), fun j hj => ?_⟩
 rw [hr] at hj
 obtain rfl : j = i := by simpa using hj
 refine wpOp_step ho (fun K' hK => h K' (fun a w h2 => hK a w ⟨.inl ?_, h2⟩))
 rcases Decidable.em (j = z) with q | q
 . subst q; exact Qgc _ _
 . rw [getD_set_ne true q]; exact hz
theorem Bx2.set {w W : World} {t : TypeId} {zs vs : Array Value} (m : Bx2 w W t zs vs) (i : Nat) (v : Value) : Bx2 w (W.setCell ⟨w.heap.size, i, none⟩ v) t zs (vs.setIfInBounds i v) := ⟨Qal m.bl (Nat.le_refl _) v, m.p1.setAt i v, m.p2.other (by omega) i v⟩
theorem Qeh (su : Int) (A : Option Addr) (cap : Nat) (l : List UInt8) (hl : l.length <= 3000000) (w : World) (hA : At w A l) :
 Calls Tryz.prog 77 #[.agg #[.slice A l.length cap, .int .i64 su]] w fun e w' => ∃ (a : Option Addr) (c : Nat), e = .returned (.agg #[.slice a l.length c, .int .i64 su]) /\ Below w.heap.size w w' /\ Sub w' a l (fun z => w.heap.size <= z /\ z < w'.heap.size) := by
 have HA := hidP hA
 clear hA
 have B0 : Below w.heap.size w ((w.alloc (.cells #[.slice A l.length cap, .int .i64 su] 56)).alloc (.cells #[.slice none 0 0, .int .i64 0] 56)) := Qab (Qab (Below.refl _ _) _) _
 have p := (Blk.new w 56 #[.slice A l.length cap, .int .i64 su]).alloc (.cells #[.slice none 0 0, .int .i64 0] 56)
 have r := Blk.new (w.alloc (.cells #[.slice A l.length cap, .int .i64 su] 56)) 56 #[.slice none 0 0, .int .i64 0]
 rw [World.size_alloc] at r
 have zr : w.heap.size + 1 < ((w.alloc (.cells #[.slice A l.length cap, .int .i64 su] 56)).alloc (.cells #[.slice none 0 0, .int .i64 0] 56)).heap.size := r.lt
 obtain ⟨v1, w1, hr1, own1, gr1, at1⟩ := Qd4 ((w.alloc (.cells #[.slice A l.length cap, .int .i64 su] 56)).alloc (.cells #[.slice none 0 0, .int .i64 0] 56)).heap.size (.slice none 0 0) [] l A cap ((w.alloc (.cells #[.slice A l.length cap, .int .i64 su] 56)).alloc (.cells #[.slice none 0 0, .int .i64 0] 56)) (Nat.le_refl _) (World.ownsRow_nil _ _ _ _) (HA.out.below B0) (by simp; omega)
 simp only [List.length_nil, Nat.zero_add, List.nil_append] at own1
 obtain ⟨a1, c1, rfl, _⟩ := Qar own1
 have B1 : Below w.heap.size w w1 := B0.grown gr1 B0.size (fun k e => by cases e)
 have p1 := p.kept gr1 (by intro h; cases h)
 have r1 := r.kept gr1 (by intro h; cases h)
 have z0 := B0.size
 have far : ∀ C, C < ((w.alloc (.cells #[.slice A l.length cap, .int .i64 su] 56)).alloc (.cells #[.slice none 0 0, .int .i64 0] 56)).heap.size -> some C ≠ (Value.slice a1 l.length c1).ownBlock := fun C hC => Qev own1 hC
 have R := (((r1.other (B' := w.heap.size) (by omega) 0 (.slice a1 l.length c1)).setAt 0 (.slice a1 l.length c1)).setAt 1 (.int .i64 su))
 have P1 : Blk _ w.heap.size 56 #[.slice a1 l.length c1, .int .i64 su] := p1.setAt 0 (.slice a1 l.length c1)
 obtain ⟨e0, e1⟩ := Blk.row2 R
 obtain ⟨u0, u1⟩ := p.row2
 obtain ⟨k0, k1⟩ := p1.row2
 obtain ⟨m0, m1⟩ := P1.row2
 obtain ⟨y0, y1⟩ := r1.row2
 have f0 := p1.thaw 0
 have f1 := r1.thaw 0
 have f2 := r1.thaw 1
 have O1 := hidP own1
 have Far := hidP far
 clear R P1 own1 gr1 at1 far
 go_enter Tryz.func77, Tryz.ntmps77
 go_wp2_with (at_builtin; refine Qaj rfl _ _ _ rfl _ _ _ rfl rfl hr1 ?_)
 exact bodyPost_ret (v := .agg #[.slice a1 l.length c1, .int .i64 su]) (by simp [results, Tryz.results77, go_sem, e0, e1]) rfl
  ⟨_, _, rfl, Qal (Qal (Qal B1 (by omega) _) (by omega) _) (by omega) _, Qbk (Qch (Qav (Qav (Qav O1.out (Far.out _ (by omega))) (Far.out _ zr)) (Far.out _ zr)) z0)⟩
theorem Qef (te vo base bt : Int) (A : Option Addr) (cap : Nat) (l : List En) (hl : l.length <= 3000000) (x : KC) (hrl : x.rs.length <= 1048576) (hml : x.ms.length <= 1048576) (hgl : x.gs.length <= 1048576) (hdl : x.ds.length <= 1048576) (hll : x.ls.length <= 1048576) (hri : ∀ y ∈ x.rs, y.its.length <= 1048576) (hmi : ∀ y ∈ x.ms, y.ms.length <= 1048576) (hgi : ∀ y ∈ x.gs, y.m.length <= 1048576 /\ y.b.length <= 1048576 /\ y.o.length <= 1048576) (w : World) (hA : At w A l) (hx : KAt w x) :
 Calls Tryz.prog 73 #[.agg #[.int .i64 te, .int .i64 vo, .int .i64 base, .int .i64 bt, .slice A l.length cap, .slice x.rA x.rs.length x.rc, .slice x.mA x.ms.length x.mc, .slice x.gA x.gs.length x.gc, .int .i64 x.time, .slice x.dA x.ds.length x.dc, .slice x.lA x.ls.length x.lc]] w fun e w' => ∃ (a1 : Option Addr) (c1 : Nat) (x' : KC) (cc : Nat -> Bool), e = .returned (.agg #[.int .i64 te, .int .i64 vo, .int .i64 base, .int .i64 bt, .slice a1 l.length c1, .slice x'.rA x'.rs.length x'.rc, .slice x'.mA x'.ms.length x'.mc, .slice x'.gA x'.gs.length x'.gc, .int .i64 x'.time, .slice x'.dA x'.ds.length x'.dc, .slice x'.lA x'.ls.length x'.lc]) /\ Below w.heap.size w w' /\ x'.p = x.p /\ Sub w' a1 l (fun z => (w.heap.size <= z /\ z < w'.heap.size) /\ cc z = true) /\ KOwn w' x' (fun z => (w.heap.size <= z /\ z < w'.heap.size) /\ cc z = false) := by
 have HA := hidP hA
 have HK : Hid (∀ W : World, Below w.heap.size w W -> Calls Tryz.prog 76 #[.agg #[.slice x.rA x.rs.length x.rc, .slice x.mA x.ms.length x.mc, .slice x.gA x.gs.length x.gc, .int .i64 x.time, .slice x.dA x.ds.length x.dc, .slice x.lA x.ls.length x.lc]] W fun e w' => NewK W w' e x.p) := fun W g => Qc0 x.rA x.rc x.rs x.mA x.mc x.ms x.gA x.gc x.gs x.time x.dA x.dc x.ds x.lA x.lc x.ls hrl hml hgl hdl hll hri hmi hgi W (hx.below g)
 clear hA hx hri hmi hgi
 have I := Bx2.new w 55 #[.int .i64 0, .int .i64 0, .int .i64 0, .int .i64 0, .slice none 0 0, .slice none 0 0, .slice none 0 0, .slice none 0 0, .int .i64 0, .slice none 0 0, .slice none 0 0] #[.int .i64 te, .int .i64 vo, .int .i64 base, .int .i64 bt, .slice A l.length cap, .slice x.rA x.rs.length x.rc, .slice x.mA x.ms.length x.mc, .slice x.gA x.gs.length x.gc, .int .i64 x.time, .slice x.dA x.ds.length x.dc, .slice x.lA x.ls.length x.lc]
 go_enter Tryz.func73, Tryz.ntmps73
 go_wp2_with fail
 refine wp_region_noPanic ?_
 have hH : (fun (W : World) => W.cell? ⟨w.heap.size, 2, none⟩ = some (.int .i64 base) /\ W.cell? ⟨w.heap.size, 3, none⟩ = some (.int .i64 bt) /\ W.cell? ⟨w.heap.size, 4, none⟩ = some (.slice A l.length cap) /\ W.cell? ⟨w.heap.size, 5, none⟩ = some (.slice x.rA x.rs.length x.rc) /\ W.cell? ⟨w.heap.size, 6, none⟩ = some (.slice x.mA x.ms.length x.mc) /\ W.cell? ⟨w.heap.size, 7, none⟩ = some (.slice x.gA x.gs.length x.gc) /\ W.cell? ⟨w.heap.size, 8, none⟩ = some (.int .i64 x.time) /\ W.cell? ⟨w.heap.size, 9, none⟩ = some (.slice x.dA x.ds.length x.dc) /\ W.cell? ⟨w.heap.size, 10, none⟩ = some (.slice x.lA x.ls.length x.lc)) _ := ⟨I.p1.cell (i := 2) rfl, I.p1.cell (i := 3) rfl, I.p1.cell (i := 4) rfl, I.p1.cell (i := 5) rfl, I.p1.cell (i := 6) rfl, I.p1.cell (i := 7) rfl, I.p1.cell (i := 8) rfl, I.p1.cell (i := 9) rfl, I.p1.cell (i := 10) rfl⟩
 refine Qgr 7 (fun (W : World) => W.cell? ⟨w.heap.size, 2, none⟩ = some (.int .i64 base) /\ W.cell? ⟨w.heap.size, 3, none⟩ = some (.int .i64 bt) /\ W.cell? ⟨w.heap.size, 4, none⟩ = some (.slice A l.length cap) /\ W.cell? ⟨w.heap.size, 5, none⟩ = some (.slice x.rA x.rs.length x.rc) /\ W.cell? ⟨w.heap.size, 6, none⟩ = some (.slice x.mA x.ms.length x.mc) /\ W.cell? ⟨w.heap.size, 7, none⟩ = some (.slice x.gA x.gs.length x.gc) /\ W.cell? ⟨w.heap.size, 8, none⟩ = some (.int .i64 x.time) /\ W.cell? ⟨w.heap.size, 9, none⟩ = some (.slice x.dA x.ds.length x.dc) /\ W.cell? ⟨w.heap.size, 10, none⟩ = some (.slice x.lA x.ls.length x.lc)) (by kernel_rfl) ?_
 refine' Qce (i := 0) (v := _) (by kernel_rfl) rfl (by kernel_rfl) (by decide) (by kernel_rfl) (by kernel_rfl) (by kernel_rfl) (fun _ _ _ h => h) (Or.inl ⟨by rfl, ?hy1⟩) (by assumption) ?rest1
 case hy1 => (intro w hSw; (try dsimp only at hSw); go_simp<;>with_reducible rfl)
 try simp only [zX,zY]
 refine' Qce (i := 1) (v := _) (by kernel_rfl) rfl (by kernel_rfl) (by decide) (by kernel_rfl) (by kernel_rfl) (by kernel_rfl) (fun _ _ _ h => h) (Or.inl ⟨by rfl, ?hy2⟩) (by assumption) ?rest2
 case hy2 => (intro w hSw; (try dsimp only at hSw); go_simp<;>with_reducible rfl)
 try simp only [zX,zY]
 refine' Qce (i := 3) (v := _) (by kernel_rfl) rfl (by kernel_rfl) (by decide) (by kernel_rfl) (by kernel_rfl) (by kernel_rfl) (fun _ _ _ h => h) (Or.inl ⟨by rfl, ?hy3⟩) (by assumption) ?rest3
 case hy3 => (intro w hSw; (try dsimp only at hSw); go_simp<;>with_reducible rfl)
 try simp only [zX,zY]
 refine' Qce (i := 4) (v := _) (by kernel_rfl) rfl (by kernel_rfl) (by decide) (by kernel_rfl) (by kernel_rfl) (by kernel_rfl) (fun _ _ _ h => h) (Or.inl ⟨by rfl, ?hy4⟩) (by assumption) ?rest4
 case hy4 => (intro w hSw; (try dsimp only at hSw); go_simp<;>with_reducible rfl)
 try simp only [zX,zY]
 refine Qdv (i := 2) (by kernel_rfl) rfl (fun K hK => ?_)
 simp only [zG]
 go_simp
 refine (copied_any base bt A cap l hl _ (HA.out.below I.bl)).mono ?_
 rintro e w1 ⟨v, rfl, n1, g1⟩
 obtain ⟨a1, c1, F1, rfl, _, _, s1, h1⟩ := n1
 have G1 := hidP (sl_sub s1 (S := fun z => w.heap.size + 2 <= z /\ z < w1.heap.size) (fun z hz => ⟨by have := h1 z hz; simp at this; omega, s1.lt z hz⟩))
 replace I := I.below g1
 have T1 : (fun (W : World) => W.cell? ⟨w.heap.size, 2, none⟩ = some (.int .i64 base) /\ W.cell? ⟨w.heap.size, 3, none⟩ = some (.int .i64 bt) /\ W.cell? ⟨w.heap.size, 4, none⟩ = some (.slice A l.length cap) /\ W.cell? ⟨w.heap.size, 5, none⟩ = some (.slice x.rA x.rs.length x.rc) /\ W.cell? ⟨w.heap.size, 6, none⟩ = some (.slice x.mA x.ms.length x.mc) /\ W.cell? ⟨w.heap.size, 7, none⟩ = some (.slice x.gA x.gs.length x.gc) /\ W.cell? ⟨w.heap.size, 8, none⟩ = some (.int .i64 x.time) /\ W.cell? ⟨w.heap.size, 9, none⟩ = some (.slice x.dA x.ds.length x.dc) /\ W.cell? ⟨w.heap.size, 10, none⟩ = some (.slice x.lA x.ls.length x.lc)) w1 := ⟨I.p1.cell (i := 2) rfl, I.p1.cell (i := 3) rfl, I.p1.cell (i := 4) rfl, I.p1.cell (i := 5) rfl, I.p1.cell (i := 6) rfl, I.p1.cell (i := 7) rfl, I.p1.cell (i := 8) rfl, I.p1.cell (i := 9) rfl, I.p1.cell (i := 10) rfl⟩
 have z1 := I.p2.lt
 clear g1 s1 h1
 refine hK.out _ _ (Or.inr T1) ?_
 clear hK K
 try simp only [zX,zY]
 refine' Qce (i := 6) (v := _) (by kernel_rfl) rfl (by kernel_rfl) (by decide) (by kernel_rfl) (by kernel_rfl) (by kernel_rfl) (fun _ _ _ h => h) (Or.inl ⟨by rfl, ?hy5⟩) (by assumption) ?rest5
 case hy5 => (intro w hSw; (try dsimp only at hSw); go_simp<;>with_reducible rfl)
 try simp only [zX,zY]
 refine Qdv (i := 5) (by kernel_rfl) rfl (fun K hK => ?_)
 simp only [zG]
 go_simp
 refine (HK.out _ I.bl).mono ?_
 rintro e w2 ⟨x', he, hp, ho, g2⟩
 simp only [KC.cells] at he
 subst he
 replace G1 := hidP (G1.out.below g2)
 have G2 := hidP ho
 have X2 := hidP hp
 have z2 := g2.size
 replace I := I.below g2
 have T2 : (fun (W : World) => W.cell? ⟨w.heap.size, 2, none⟩ = some (.int .i64 base) /\ W.cell? ⟨w.heap.size, 3, none⟩ = some (.int .i64 bt) /\ W.cell? ⟨w.heap.size, 4, none⟩ = some (.slice A l.length cap) /\ W.cell? ⟨w.heap.size, 5, none⟩ = some (.slice x.rA x.rs.length x.rc) /\ W.cell? ⟨w.heap.size, 6, none⟩ = some (.slice x.mA x.ms.length x.mc) /\ W.cell? ⟨w.heap.size, 7, none⟩ = some (.slice x.gA x.gs.length x.gc) /\ W.cell? ⟨w.heap.size, 8, none⟩ = some (.int .i64 x.time) /\ W.cell? ⟨w.heap.size, 9, none⟩ = some (.slice x.dA x.ds.length x.dc) /\ W.cell? ⟨w.heap.size, 10, none⟩ = some (.slice x.lA x.ls.length x.lc)) w2 := ⟨I.p1.cell (i := 2) rfl, I.p1.cell (i := 3) rfl, I.p1.cell (i := 4) rfl, I.p1.cell (i := 5) rfl, I.p1.cell (i := 6) rfl, I.p1.cell (i := 7) rfl, I.p1.cell (i := 8) rfl, I.p1.cell (i := 9) rfl, I.p1.cell (i := 10) rfl⟩
 clear g2 ho hp
 refine hK.out _ _ (Or.inr T2) ?_
 clear hK K
 try simp only [zX,zY]
 refine Qdv (i := 7) (by kernel_rfl) rfl (fun K hK => ?_)
 simp only [zG]
 have u0 := I.p1.cell (i := 0) rfl; have u1 := I.p1.cell (i := 1) rfl; have u2 := I.p1.cell (i := 2) rfl; have u3 := I.p1.cell (i := 3) rfl; have u4 := I.p1.cell (i := 4) rfl; have u5 := I.p1.cell (i := 5) rfl; have u6 := I.p1.cell (i := 6) rfl; have u7 := I.p1.cell (i := 7) rfl; have u8 := I.p1.cell (i := 8) rfl; have u9 := I.p1.cell (i := 9) rfl; have u10 := I.p1.cell (i := 10) rfl; have fu0 := I.p1.thaw 0; have fu1 := I.p1.thaw 1; have fu2 := I.p1.thaw 2; have fu3 := I.p1.thaw 3; have fu4 := I.p1.thaw 4; have fu5 := I.p1.thaw 5; have fu6 := I.p1.thaw 6; have fu7 := I.p1.thaw 7; have fu8 := I.p1.thaw 8; have fu9 := I.p1.thaw 9; have fu10 := I.p1.thaw 10
 go_simp
 refine hK.out _ _ (Or.inl rfl) ?_
 clear hK K
 try simp only [zX,zY]
 refine Qfc (i := 8) (by kernel_rfl) (by kernel_rfl) rfl (fun K hK => ?_)
 simp only [zG]
 go_simp
 refine hK.out _ _ ?_
 clear hK K
 try simp only [zX,zY]
 refine Qfc (i := 9) (by kernel_rfl) (by kernel_rfl) rfl (fun K hK => ?_)
 simp only [zG]
 go_simp
 refine hK.out _ _ ?_
 clear hK K
 try simp only [zX,zY]
 refine till_done (by kernel_rfl) ?_ _
 refine NoPanic.normal ?_
 have M := (((((((((I.set 2 (.int .i64 base)).set 3 (.int .i64 bt)).set 4 (.slice a1 l.length c1)).set 5 (.slice x'.rA x'.rs.length x'.rc)).set 6 (.slice x'.mA x'.ms.length x'.mc)).set 7 (.slice x'.gA x'.gs.length x'.gc)).set 8 (.int .i64 x'.time)).set 9 (.slice x'.dA x'.ds.length x'.dc)).set 10 (.slice x'.lA x'.ls.length x'.lc))
 simp only [List.setIfInBounds_toArray, List.set_cons_zero, List.set_cons_succ] at M
 have O := Offp.set (Offp.set (Offp.set (Offp.set (Offp.set (Offp.set (Offp.set (Offp.set (Offp.set (Offp.refl (fun z => z = w.heap.size ∨ z = w.heap.size + 1) w2) (Or.inl rfl) 2 (.int .i64 base)) (Or.inl rfl) 3 (.int .i64 bt)) (Or.inl rfl) 4 (.slice a1 l.length c1)) (Or.inl rfl) 5 (.slice x'.rA x'.rs.length x'.rc)) (Or.inl rfl) 6 (.slice x'.mA x'.ms.length x'.mc)) (Or.inl rfl) 7 (.slice x'.gA x'.gs.length x'.gc)) (Or.inl rfl) 8 (.int .i64 x'.time)) (Or.inl rfl) 9 (.slice x'.dA x'.ds.length x'.dc)) (Or.inl rfl) 10 (.slice x'.lA x'.ls.length x'.lc)
 clear T1 T2 hH u0 fu0 u1 fu1 u2 fu2 u3 fu3 u4 fu4 u5 fu5 u6 fu6 u7 fu7 u8 fu8 u9 fu9 u10 fu10
 generalize (World.setCell (World.setCell (World.setCell (World.setCell (World.setCell (World.setCell (World.setCell (World.setCell (World.setCell w2 ⟨w.heap.size, 2, none⟩ (.int .i64 base)) ⟨w.heap.size, 3, none⟩ (.int .i64 bt)) ⟨w.heap.size, 4, none⟩ (.slice a1 l.length c1)) ⟨w.heap.size, 5, none⟩ (.slice x'.rA x'.rs.length x'.rc)) ⟨w.heap.size, 6, none⟩ (.slice x'.mA x'.ms.length x'.mc)) ⟨w.heap.size, 7, none⟩ (.slice x'.gA x'.gs.length x'.gc)) ⟨w.heap.size, 8, none⟩ (.int .i64 x'.time)) ⟨w.heap.size, 9, none⟩ (.slice x'.dA x'.ds.length x'.dc)) ⟨w.heap.size, 10, none⟩ (.slice x'.lA x'.ls.length x'.lc)) = W9 at M O ⊢
 have HM := hidP M
 have HO := hidP O
 have hs9 := O.size
 clear M O
 go_upto_region 2 with fail
 refine wp_region_lit ?_
 refine Qag rfl 55 _ rfl (b := w.heap.size) rfl HM.out.p1 Tryz.underlying55 (by kernel_rfl) ?_
 refine Qam rfl 55 _ _ rfl (g := w.heap.size + 1) (cells := #[.int .i64 te, .int .i64 vo, .int .i64 base, .int .i64 bt, .slice a1 l.length c1, .slice x'.rA x'.rs.length x'.rc, .slice x'.mA x'.ms.length x'.mc, .slice x'.gA x'.gs.length x'.gc, .int .i64 x'.time, .slice x'.dA x'.ds.length x'.dc, .slice x'.lA x'.ls.length x'.lc]) rfl rfl HM.out.p2 (by kernel_rfl) rfl (by simp [Value.oneCell']) ?_
 have HB := hidP (HM.out.p2.row #[.int .i64 te, .int .i64 vo, .int .i64 base, .int .i64 bt, .slice a1 l.length c1, .slice x'.rA x'.rs.length x'.rc, .slice x'.mA x'.ms.length x'.mc, .slice x'.gA x'.gs.length x'.gc, .int .i64 x'.time, .slice x'.dA x'.ds.length x'.dc, .slice x'.lA x'.ls.length x'.lc])
 go_wp2
 refine bodyPost_ret (v := .agg #[.int .i64 te, .int .i64 vo, .int .i64 base, .int .i64 bt, .slice a1 l.length c1, .slice x'.rA x'.rs.length x'.rc, .slice x'.mA x'.ms.length x'.mc, .slice x'.gA x'.gs.length x'.gc, .int .i64 x'.time, .slice x'.dA x'.ds.length x'.dc, .slice x'.lA x'.ls.length x'.lc]) (Qbm (by rfl) rfl HB.out Tryz.underlying55 (by kernel_rfl)) rfl ?_
 have k := HO.out.row (b := w.heap.size + 1) (Or.inr rfl) #[.int .i64 te, .int .i64 vo, .int .i64 base, .int .i64 bt, .slice a1 l.length c1, .slice x'.rA x'.rs.length x'.rc, .slice x'.mA x'.ms.length x'.mc, .slice x'.gA x'.gs.length x'.gc, .int .i64 x'.time, .slice x'.dA x'.ds.length x'.dc, .slice x'.lA x'.ls.length x'.lc]
 have hk := k.size
 refine ⟨a1, c1, x', fun z => decide (z < w1.heap.size), rfl, Qbx HM.out.bl (by omega) _, X2.out, ((G1.out.offp k (fun z hz e => by omega)).mono (T := fun z => (w.heap.size <= z /\ z < (W9.setRow (w.heap.size + 1) #[.int .i64 te, .int .i64 vo, .int .i64 base, .int .i64 bt, .slice a1 l.length c1, .slice x'.rA x'.rs.length x'.rc, .slice x'.mA x'.ms.length x'.mc, .slice x'.gA x'.gs.length x'.gc, .int .i64 x'.time, .slice x'.dA x'.ds.length x'.dc, .slice x'.lA x'.ls.length x'.lc]).heap.size) /\ decide (z < w1.heap.size) = true) (fun z hz => ⟨⟨by have := hz.1; omega, by have := hz.2; omega⟩, by simpa using hz.2⟩)), (G2.out.mono (T := fun z => (w.heap.size <= z /\ z < (W9.setRow (w.heap.size + 1) #[.int .i64 te, .int .i64 vo, .int .i64 base, .int .i64 bt, .slice a1 l.length c1, .slice x'.rA x'.rs.length x'.rc, .slice x'.mA x'.ms.length x'.mc, .slice x'.gA x'.gs.length x'.gc, .int .i64 x'.time, .slice x'.dA x'.ds.length x'.dc, .slice x'.lA x'.ls.length x'.lc]).heap.size) /\ decide (z < w1.heap.size) = false) (fun z hz => ⟨⟨by have := hz.1; omega, by have := hz.2; omega⟩, by have := hz.1; simp; omega⟩)).offp k (fun z hz e => ?_)⟩
 . have h9 := hz.2
   simp at h9
   omega
end Go.Proofs.YtmdaammalacifaaGreat.Gen
