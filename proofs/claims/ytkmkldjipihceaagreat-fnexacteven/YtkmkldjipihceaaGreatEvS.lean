/-
  The specification's Even. No condition but the sizes that every text and number has.
-/
import Derived.Test.YtkmkldjipihceaaGreatWoS
import Derived.Test.YtkmkldjipihceaaGreatLdI
set_option linter.unusedVariables false
set_option linter.unusedSimpArgs false
set_option maxRecDepth 100000
set_option maxHeartbeats 8000000
set_option maxRecDepth 100000
set_option maxHeartbeats 8000000
namespace Go.Proofs.YtkmkldjipihceaaGreat.Gen
open ChangeShapes WideShapes ChangeAt RowKit Joins Deep Base
theorem Qeq (p : WC) (h : WAsk p) (hsz : (p.ns.length : Int) = p.size) (hps : ∀ x ∈ p.ns, (x.ps.length : Int) = p.size) (n : Nat) (hn : n < p.ns.length) (w : World) (hp : WAt w p) :
 Calls Tryz.prog 33 #[.agg (Qal p), .int .i64 (n : Int)] w fun e w' => e = .returned (.bool (Qe3 p.ns p.ns[n])) /\ Below w.heap.size w w' := by
 have HN := hidP hp.na
 have hnl := h.f.nl
 have HSZ := hidP hsz
 have HPS := hidP (hps _ (List.getElem_mem hn))
 clear hsz hps
 have hpn := hp.ne _ (List.getElem_mem hn)
 have hQ := h.n _ (List.getElem_mem hn)
 have HP := hidP hpn.pa
 have EL : Hid (∀ W : World, Below w.heap.size w W -> Calls Tryz.prog 66 #[.agg (Qap p.ns[n].base p.ns[n].bt p.ns[n].A p.ns[n].l.length p.ns[n].cap)] W fun e w' => e = .returned (.tuple #[.int .i64 (Qbc p.ns[n].base p.ns[n].l), .int .i64 (Qds p.ns[n].bt p.ns[n].l)]) /\ Below W.heap.size W w') := fun W g => Qct p.ns[n].base p.ns[n].bt p.ns[n].A p.ns[n].cap p.ns[n].l (by have := hQ.f.ll; omega) W (hpn.la.below g)
 have HF : Hid (Qe3 p.ns p.ns[n] = (decide (p.ns[n].role = 2) && allI (Qbc p.ns[n].base p.ns[n].l) p.ns[n].ps && allC p.ns[n].com p.ns)) := rfl
 have P0 := hidP (Blk.new w 39 (Qal p))
 have B0 := hidP (show Below w.heap.size w (w.alloc (.cells (Qal p) 39)) from Qab (Below.refl _ _) _)
 obtain ⟨bn, on, hE, hbn, hIn⟩ : ∃ b o, p.nA = some ⟨b, o, none⟩ /\ b < w.heap.size /\ In w b o p.ns := by
  rcases HN.out with h | h
  . rw [h] at hn; simp at hn
  . exact h
 have HI := hidP hIn
 have HE := hidP hE
 have HR := hidP ((hIn.below hbn B0.out).el n hn)
 have hi0 : (0 : Int) <= (n : Int) := by omega
 have hi1 : (n : Int) < (p.ns.length : Int) := by omega
 have x5 := P0.out.cell (i := 5) (v := .slice p.nA p.ns.length p.nc) rfl
 have q0 := P0.out.lt
 rw [hE] at x5
 clear hE hIn hpn hQ hp h
 generalize Qe3 p.ns p.ns[n] = eb at HF ⊢
 generalize Qbc p.ns[n].base p.ns[n].l = ln at EL HF
 generalize Qds p.ns[n].bt p.ns[n].l = lt at EL
 go_enter Tryz.func33, Tryz.ntmps33
 go_upto_region 1 with fail
 generalize w.alloc (.cells (Qal p) 39) = Y0 at *
 refine wp_region_lit ?_
 iterate 12 go_step
 refine wpList_load_mid (by rfl) 67 _ (by rfl) bn (on + n * 26) (by rfl) (Cel.cs p.ns[n]) _ HR.out Tryz.underlying67 rfl Qcu ?_
 iterate 3 go_step
 refine Qa2 rfl 67 _ _ rfl (g := Y0.heap.size) (cells := Qaw p.ns[n]) rfl rfl (Blk.new Y0 67 Qak) (by kernel_rfl) rfl (Qb3 _) ?_
 refine wpList_nil ?_
 rw [World.setRow_alloc_new]
 have XN : Hid (Blk (Y0.alloc (.cells (Qaw p.ns[n]) 67)) Y0.heap.size 67 (Qaw p.ns[n])) := Blk.new Y0 _ _
 replace B0 := hidP (show Below w.heap.size w (Y0.alloc (.cells (Qaw p.ns[n]) 67)) from Qab B0.out _)
 replace P0 := hidP (P0.out.alloc (.cells (Qaw p.ns[n]) 67))
 clear x5 q0 HR
 generalize Y0.alloc (.cells (Qaw p.ns[n]) 67) = Y at XN B0 P0 ⊢
 generalize Y0.heap.size = bx at XN ⊢
 have y3 := XN.out.cell (i := 3) (v := .int .i64 p.ns[n].base) rfl
 have y4 := XN.out.cell (i := 4) (v := .int .i64 p.ns[n].bt) rfl
 have y5 := XN.out.cell (i := 5) (v := .slice p.ns[n].A p.ns[n].l.length p.ns[n].cap) rfl
 have q1 := XN.out.lt
 go_wp2_with fail
 refine (EL.out _ B0.out).mono ?_
 rintro e w1 ⟨rfl, g⟩
 replace B0 := hidP (via0 g B0.out)
 replace P0 := hidP (P0.out.below g P0.out.lt)
 replace XN := hidP (XN.out.below g XN.out.lt)
 clear g EL y3 y4 y5 q1
 have HPL := hidP (show p.ns[n].ps.length = p.ns.length by have := HPS.out; have := HSZ.out; omega)
 go_wp2
 go_loopw [8] (fun i W => ∃ k : Nat, i = .int .i64 (k : Int) /\ k <= p.ns.length /\ Hid (Below w.heap.size w W) /\ Hid (Blk W w.heap.size 39 (Qal p)) /\ Hid (Blk W bx 67 (Qaw p.ns[n])) /\ Hid (eb = (decide (p.ns[n].role = 2) && allI ln (p.ns[n].ps.drop k) && allC p.ns[n].com (p.ns.drop k)))) (fun i _ => p.ns.length - (intOf i).toNat)
 case atStart => exact ⟨0, rfl, by omega, B0, P0, XN, HF⟩
 case round =>
  clear B0 P0 XN HF
  obtain ⟨k, rfl, hk, hB, hX, hY, hD⟩ := hrel
  have x4 := hX.out.cell (i := 4) (v := .int .i64 p.size) rfl
  have q0 := hX.out.lt
  by_cases hlt : k < p.ns.length
  . have hkp : k < p.ns[n].ps.length := by have := HPL.out; omega
    obtain ⟨bp, op, hEp, hbp, hInp⟩ : ∃ b o, p.ns[n].pA = some ⟨b, o, none⟩ /\ b < w.heap.size /\ In w b o p.ns[n].ps := by
     rcases HP.out with h | h
     . rw [h] at hkp; simp at hkp
     . exact h
    have hj0 : (0 : Int) <= (k : Int) := by omega
    have hj1 : (k : Int) < (p.ns.length : Int) := by omega
    have hj2 : (k : Int) < p.size := by have := HSZ.out; omega
    have hj3 : (k : Int) < (p.ns[n].ps.length : Int) := by omega
    have x5 : wr.cell? ⟨w.heap.size, 5, none⟩ = some (.slice (some ⟨bn, on, none⟩) p.ns.length p.nc) := by rw [← HE.out]; exact hX.out.cell rfl
    have y15 : wr.cell? ⟨bx, 15, none⟩ = some (.slice (some ⟨bp, op, none⟩) p.ns[n].ps.length p.ns[n].pc) := by rw [← hEp]; exact hY.out.cell rfl
    have y16 : wr.cell? ⟨bx, 16, none⟩ = some (.int .i64 p.ns[n].com) := hY.out.cell rfl
    have cp := (hInp.below hbp hB.out).getInt k hkp
    have cc : wr.cell? ⟨bn, on + k * 26 + 16, none⟩ = some (.int .i64 p.ns[k].com) := (HI.out.below hbn hB.out).cell k hlt (f := 16) rfl
    have hd := hidP (show eb = (decide (p.ns[n].role = 2) && (decide (p.ns[n].ps[k] = ln) && allI ln (p.ns[n].ps.drop (k + 1))) && (decide (p.ns[k].com = p.ns[n].com) && allC p.ns[n].com (p.ns.drop (k + 1)))) by rw [hD.out, Qhf ln _ k hkp, Qhg _ _ k hlt])
    have hH : (fun (V : World) => V.cell? ⟨w.heap.size, 5, none⟩ = some (.slice (some ⟨bn, on, none⟩) p.ns.length p.nc) /\ V.cell? ⟨bx, 15, none⟩ = some (.slice (some ⟨bp, op, none⟩) p.ns[n].ps.length p.ns[n].pc) /\ V.cell? ⟨bp, op + k, none⟩ = some (.int .i64 p.ns[n].ps[k]) /\ V.cell? ⟨bn, on + k * 26 + 16, none⟩ = some (.int .i64 p.ns[k].com) /\ V.cell? ⟨bx, 16, none⟩ = some (.int .i64 p.ns[n].com)) wr.drew := ⟨x5, y15, cp, cc, y16⟩
    clear x5 y15 y16 cp cc hInp hEp hD
    go_upto_region 6 with fail
    refine wp_region_noPanic ?_
    refine wp_region_held_drew (S := (fun (V : World) => V.cell? ⟨w.heap.size, 5, none⟩ = some (.slice (some ⟨bn, on, none⟩) p.ns.length p.nc) /\ V.cell? ⟨bx, 15, none⟩ = some (.slice (some ⟨bp, op, none⟩) p.ns[n].ps.length p.ns[n].pc) /\ V.cell? ⟨bp, op + k, none⟩ = some (.int .i64 p.ns[n].ps[k]) /\ V.cell? ⟨bn, on + k * 26 + 16, none⟩ = some (.int .i64 p.ns[k].com) /\ V.cell? ⟨bx, 16, none⟩ = some (.int .i64 p.ns[n].com))) (by kernel_rfl) hH (fun hH => ?_)
    have hBd := hidP hB.out.drew
    have hXd := hidP (hX.out.below (Below.refl _ _).drew hX.out.lt)
    have hYd := hidP (hY.out.below (Below.refl _ _).drew hY.out.lt)
    by_cases h1 : p.ns[n].ps[k] = ln
    case neg =>
     have hF := hidP (show eb = false by rw [hd.out, decide_eq_false h1]; simp)
     have hb1 : (p.ns[n].ps[k] != ln) = true := bne_iff_ne.2 h1
     clear hd hX hY hB x4 q0
     refine ztk [0,1,2,3,4,5,6,7] ?_; repeat (refine ztn (hS := hH) (h := ?_); try simp only [zX,zY])
     refine zte ?_
     refine ztk [8,9,10,11,12,13,14,15,16] ?_; repeat (refine ztu (hS := hH) (h := ?_); try simp only [zX,zY])
     refine zte ?_
     refine ztk [17] ?_; repeat (refine ztn (hS := hH) (h := ?_); try simp only [zX,zY])
     refine zte ?_
     refine zdn ?_
     go_wp2
     go_ret
     exact ⟨by rw [hF.out]; try rfl, hBd.out⟩
    have hb1 : (p.ns[n].ps[k] != ln) = false := by simp [h1]
    by_cases h2 : p.ns[k].com = p.ns[n].com
    case neg =>
     have hF := hidP (show eb = false by rw [hd.out, decide_eq_false h2]; simp)
     have hb2 : (p.ns[k].com != p.ns[n].com) = true := bne_iff_ne.2 h2
     clear hd hX hY hB x4 q0 h1
     refine ztk [0,1,2,3,4,5,6,7,8,9,10,11,12,13,14,15,16,17] ?_; repeat (refine ztn (hS := hH) (h := ?_); try simp only [zX,zY])
     refine zte ?_
     refine zdn ?_
     go_wp2
     go_ret
     exact ⟨by rw [hF.out]; try rfl, hBd.out⟩
    have hb2 : (p.ns[k].com != p.ns[n].com) = false := by simp [h2]
    have hF := hidP (show eb = (decide (p.ns[n].role = 2) && allI ln (p.ns[n].ps.drop (k + 1)) && allC p.ns[n].com (p.ns.drop (k + 1))) by rw [hd.out, decide_eq_true h1, decide_eq_true h2]; rfl)
    clear hd hX hY hB x4 q0 h1 h2
    refine ztk [0,1,2,3,4,5,6,7,8,9,10,11,12,13,14,15,16,17] ?_; repeat (refine ztn (hS := hH) (h := ?_); try simp only [zX,zY])
    refine zte ?_
    refine zdn ?_
    go_wp2
    exact ⟨⟨k + 1, by go_num, by omega, hBd, hXd, hYd, hF⟩, by simp [intOf]; omega⟩
  . have hF := hidP (show eb = (p.ns[n].role == 2) by
     rw [hD.out, List.drop_of_length_le (by have := HPL.out; omega), List.drop_of_length_le (by omega)]
     simp only [allI, allC, List.all_nil, Bool.and_true]
     by_cases h : p.ns[n].role = 2<;>simp [h])
    have hge : ¬ (k : Int) < p.size := by have := HSZ.out; omega
    have y12 := hY.out.cell (i := 12) (v := .int .i64 p.ns[n].role) rfl
    have q1 := hY.out.lt
    go_wp2
    go_ret
    exact ⟨by rw [hF.out]; try rfl, hB.out⟩
theorem Qgr (p : WC) (i : Int) (hi : I64 i) (h : WAsk p) (w : World) (hp : WAt w p) :
 Calls Tryz.prog 10 #[.agg (Qal p), .int .i64 i] w fun e w' => e = .returned (.bool (Qcp p i)) /\ Below w.heap.size w w' := by
 have EW : Hid (∀ W : World, Below w.heap.size w W -> Calls Tryz.prog 17 #[.agg (Qal p)] W fun e w' => e = .returned (.bool (Qas p)) /\ Below W.heap.size W w') := fun W g => Qec p h W (hp.below g)
 have EI : Hid (∀ W : World, Calls Tryz.prog 32 (Qa4 i 0 (p.size - 1)) W fun e w' => e = .returned (.bool (inB i 0 (p.size - 1))) /\ w' = W) := fun W => in_any _ _ _ W
 have EE : Hid (Qas p = true -> inB i 0 (p.size - 1) = true -> ∀ W : World, Below w.heap.size w W -> Calls Tryz.prog 33 #[.agg (Qal p), .int .i64 i] W fun e w' => e = .returned (.bool (Qcp p i)) /\ Below W.heap.size W w') := fun hw hi W g => by
  obtain ⟨n, hn, rfl, e⟩ := even_at hw hi
  rw [e]
  exact Qeq p h (Qe7 hw) (world_ps hw) n hn W (hp.below g)
 have HF : Hid (Qcp p i = (Qas p && inB i 0 (p.size - 1) && (match p.ns[i.toNat]? with | some x => Qe3 p.ns x | none => false))) := rfl
 have HZ : Hid (Qas p = true -> 1 <= p.size /\ p.size <= 5) := fun hw => by
  unfold Qas at hw
  simp only [Bool.and_eq_true] at hw
  have : inB p.size 1 5 = true := by simp [hw]
  simpa [inB] using this
 have P0 := hidP (Blk.new w 39 (Qal p))
 have B0 := hidP (show Below w.heap.size w (w.alloc (.cells (Qal p) 39)) from Qab (Below.refl _ _) _)
 clear hp h
 generalize Qas p = wb at EW HF EE HZ
 generalize Qcp p i = eb at HF EE ⊢
 generalize inB i 0 (p.size - 1) = ib at EI HF EE
 go_enter Tryz.func10, Tryz.ntmps10
 go_upto_region 1 with fail
 refine wp_region_lit ?_
 refine Qau rfl 39 _ rfl (b := w.heap.size) rfl P0.out Tryz.underlying39 infoW ?_
 go_wp2_with fail
 refine (EW.out _ B0.out).mono ?_
 rintro e w1 ⟨rfl, g⟩
 replace B0 := hidP (via0 g B0.out)
 replace P0 := hidP (P0.out.below g P0.out.lt)
 have x4 := P0.out.cell (i := 4) (v := .int .i64 p.size) rfl
 have q0 := P0.out.lt
 clear g EW
 cases wb
 . have hf : Hid (eb = false) := hidP (by rw [HF.out]; rfl)
   go_wp2
   go_ret
   exact ⟨by rw [hf.out]; try rfl, B0.out⟩
 obtain ⟨hz0, hz1⟩ := HZ.out rfl
 go_wp2_with fail
 refine (EI.out _).mono ?_
 rintro e w2 ⟨rfl, rfl⟩
 cases ib
 . have hf : Hid (eb = false) := hidP (by rw [HF.out]; rfl)
   go_wp2
   go_ret
   exact ⟨by rw [hf.out]; try rfl, B0.out⟩
 replace EE := hidP (EE.out (by trivial) (by trivial))
 clear HF HZ x4 q0
 dsimp only
 apply_assumption
 iterate 6 go_step
 refine Qcs (by rfl) 39 _ rfl (b := w.heap.size) rfl P0.out Tryz.underlying39 infoW ?_
 go_wp2_with fail
 refine (EE.out _ B0.out).mono ?_
 rintro e w3 ⟨rfl, g⟩
 go_wp2
 go_ret
 exact ⟨rfl, via0 g B0.out⟩
end Go.Proofs.YtkmkldjipihceaaGreat.Gen
namespace Go.Proofs.YtkmkldjipihceaaGreat.EvenX
open ChangeShapes WideShapes ChangeAt RowKit Joins Deep Base Gen
theorem own : ownKnob Tryz.prog.godebug = none := by kernel_rfl
theorem laidOut : laidOutB Tryz.prog = true := by kernel_rfl
structure Lq (w W : World) (pl : Array Value) : Prop where
  b1 : Blk W w.heap.size 30 pl
  bl : Below w.heap.size w W
theorem Lq.below {w W W' : World} {pl : Array Value} (h : Lq w W pl) (g : Below W.heap.size W W') : Lq w W' pl := ⟨h.b1.below g h.b1.lt, via0 g h.bl⟩
def GoodW (p : WC) (W : World) (z : Array Value) : Prop := ∃ q : WC, z = Qal q /\ SameW q p /\ WAt W q
theorem GoodW.below {p : WC} {W W' : World} {z : Array Value} (h : GoodW p W z) (g : Below W.heap.size W W') : GoodW p W' z := by
 obtain ⟨q, e, s, a⟩ := h; exact ⟨q, e, s, a.below g⟩
theorem GoodW.size {p : WC} {W : World} {z : Array Value} (h : GoodW p W z) : z.size = 11 := by obtain ⟨q, e, _⟩ := h; rw [e]; rfl
theorem GoodW.one {p : WC} {W : World} {z : Array Value} (h : GoodW p W z) : z.all (·.oneCell') = true := by obtain ⟨q, e, _⟩ := h; rw [e]; exact cellsW_one q
theorem law_any (p : WC) (hr : WRight p) (hz : I64 p.size) (i : Int) (hi : I64 i) (w : World) (hp : WAt w p) :
 Calls Tryz.prog 4 #[.agg (Qal p), .int .i64 i] w fun e w' => e = .returned (.bool true) /\ Below w.heap.size w w' := by
 have Z0 : Hid (∀ W : World, Below w.heap.size w W -> Calls Tryz.prog 5 #[.agg (Qal p), .int .i64 1048576] W fun e w' => (∃ r : Int, e = .returned (.int .i64 r) /\ (r < 0 ∨ (0 <= r /\ WFit p))) /\ Below W.heap.size W w') := fun W g => Qht p hr W (hp.below g)
 have CT0 : Hid (WFit p -> ∀ W : World, Below w.heap.size w W -> Calls Tryz.prog 7 #[.agg (Qal p)] W fun e w' => ∃ q, e = .returned (.agg q) /\ Below W.heap.size W w' /\ GoodW p w' q) := fun hf W g => (Qhl p hf W (hp.below g)).mono fun e w' h => by
  obtain ⟨q, e1, h1, h2, h3⟩ := h
  exact ⟨_, e1, h3, q, rfl, h1, h2.at⟩
 have CE0 : Hid (WFit p -> ∀ (W : World) (x y : Array Value), GoodW p W x -> GoodW p W y -> Calls Tryz.prog 9 #[.agg x, .agg y] W fun e w' => e = .returned (.bool true) /\ Below W.heap.size W w') := fun hf W x y hx hy => by
  obtain ⟨a, rfl, sa, wa⟩ := hx
  obtain ⟨b, rfl, sb, wb⟩ := hy
  exact Qg3 ⟨sa.ro.trans sb.ro.symm, sa.wi.trans sb.wi.symm, sa.le.trans sb.le.symm, sa.ke.trans sb.ke.symm, sa.size.trans sb.size.symm, sa.ns.trans sb.ns.symm, sa.ms.trans sb.ms.symm, sa.ss.trans sb.ss.symm, sa.fs.trans sb.fs.symm, sa.hs.trans sb.hs.symm, sa.ds.trans sb.ds.symm⟩ (hf.same sb) W wa wb
 have CP0 : Hid (WFit p -> ∀ (W : World) (x : Array Value), GoodW p W x -> Calls Tryz.prog 10 #[.agg x, .int .i64 i] W fun e w' => e = .returned (.bool (Qcp p i)) /\ Below W.heap.size W w') := fun hf W x hx => by
  obtain ⟨a, rfl, sa, wa⟩ := hx
  rw [← Qfo sa]
  exact Qgr a i hi ((WAsk.of hr hf hz).same sa) W wa
 have CI0 : Hid (WFit p -> ∀ (W : World) (x : Array Value), GoodW p W x -> Calls Tryz.prog 11 #[.agg x, .int .i64 i] W fun e w' => e = .returned (.bool (Qcp p i)) /\ Below W.heap.size W w') := fun hf W x hx => by
  obtain ⟨a, rfl, sa, wa⟩ := hx
  rw [← Qfo sa]
  exact Qg0 a i hi ((WAsk.of hr hf hz).same sa) W wa
 have I1 : Hid ((Tryz.prog.info? 30).map (·.size) = some (Qal p).size) := by show _ = _; kernel_rfl
 have L : Hid (Lq w (w.alloc (.cells (Qal p) 30)) (Qal p)) := ⟨Blk.new w _ _, Qab (Below.refl _ _) _⟩
 clear hr hp hz hi
 generalize hB : (Qcp p i) = B at *
 generalize hpl : Qal p = pl at *
 clear hB hpl
 go_enter Tryz.func4, Tryz.ntmps4
 go_upto_region 2 with fail
 refine wp_region_lit ?_
 refine Qau rfl 30 _ rfl (b := w.heap.size) rfl L.out.b1 Tryz.underlying30 I1.out ?_
 go_wp2_with fail
 refine (Z0.out _ L.out.bl).mono ?_
 rintro e w1 ⟨⟨r, rfl, hz⟩, g⟩
 replace L := hidP (L.out.below g)
 clear g
 rcases hz with hz | ⟨hz, hf⟩
 . go_wp2
   go_ret
   exact ⟨rfl, L.out.bl⟩
 have nz : ¬ r < 0 := by omega
 have CT := hidP (CT0.out hf)
 have CP := hidP (CP0.out hf)
 have CI := hidP (CI0.out hf)
 have CE := hidP (CE0.out hf)
 clear CT0 CP0 CI0 CE0 Z0 hf
 go_upto_region 5 with fail
 refine wp_region_lit ?_
 refine Qau rfl 30 _ rfl (b := w.heap.size) rfl L.out.b1 Tryz.underlying30 I1.out ?_
 go_wp2_with fail
 refine (CT.out _ L.out.bl).mono ?_
 rintro e w2 ⟨q0, rfl, g, hg⟩
 replace L := hidP (L.out.below g)
 have G0 := hidP hg
 clear g hg
 go_wp2_with fail
 refine (CP.out _ _ G0.out).mono ?_
 rintro e w3 ⟨rfl, g⟩
 replace L := hidP (L.out.below g)
 clear g G0
 go_upto_region 6 with fail
 refine wp_region_lit ?_
 refine Qau rfl 30 _ rfl (b := w.heap.size) rfl L.out.b1 Tryz.underlying30 I1.out ?_
 go_wp2_with (refine (CT.out _ L.out.bl).mono ?_)
 rintro e w4 ⟨q, rfl, g, hg⟩
 have G4 := hidP hg
 have I3 : Hid ((Tryz.prog.info? 39).map (·.size) = some q.size) := by show _ = _; rw [hg.size]; kernel_rfl
 replace L := hidP (L.out.below g)
 clear g hg
 dsimp only
 apply_assumption
 iterate 3 go_step
 refine Qa2 rfl 39 _ _ rfl (g := w4.heap.size) (cells := q) rfl rfl (Blk.new w4 39 Qa1) I3.out (by rw [G4.out.size]; rfl) G4.out.one ?_
 refine wpList_nil ?_
 rw [World.setRow_alloc_new]
 have X : Hid (Blk (w4.alloc (.cells q 39)) w4.heap.size 39 q) := Blk.new w4 _ _
 replace L := hidP (L.out.below (Qab (Below.refl _ _) (.cells q 39)))
 replace G4 := hidP (G4.out.below (Qab (Below.refl _ _) (.cells q 39)))
 go_upto_region 7 with fail
 refine wp_region_lit ?_
 refine Qau rfl 39 _ rfl (b := w4.heap.size) rfl X.out Tryz.underlying39 I3.out ?_
 go_wp2_with fail
 refine (CI.out _ _ G4.out).mono ?_
 rintro e w7 ⟨rfl, g⟩
 replace L := hidP (L.out.below g)
 replace X := hidP (X.out.below g X.out.lt)
 replace G4 := hidP (G4.out.below g)
 clear g
 cases B
 all_goals
  go_wp2_with fail
  refine wp_region_noPanic ?_
  refine wp_region_held_drew (S := (fun (W : World) => Blk W w.heap.size 30 pl /\ Blk W w4.heap.size 39 q)) (by kernel_rfl) ?_ (fun hH => ?_)
  . exact ⟨L.out.b1, X.out⟩
  refine zt1 0 ?_; refine ztn (hy := fun w' hSw => Qcf rfl rfl hSw.2 Tryz.underlying39 I3.out) (h := ?_); try simp only [zX,zY]
  refine zte ?_
  refine zt1 1 ?_; refine ztn (hy := fun w' hSw => Qcf rfl rfl hSw.1 Tryz.underlying30 I1.out) (h := ?_); try simp only [zX,zY]
  refine zte ?_
  refine zR1 2 (fun K hK => ?_)
  simp only [zG]
  go_simp
  refine (CT.out _ (L.out.bl.drew)).mono ?_; rintro e w8 ⟨q8, rfl, g, hg⟩; have gd := via0 g (Below.drew (Below.refl _ _)); replace L := hidP (L.out.below gd); replace X := hidP (X.out.below gd X.out.lt); replace G4 := hidP (G4.out.below gd); have G8 := hidP hg; clear g gd hg
  refine hK.out _ _ ⟨L.out.b1, X.out⟩ fun hH => ?_; clear hK K; try simp only [zX,zY]
  refine zR1 3 (fun K hK => ?_)
  simp only [zG]
  go_simp
  refine (CE.out _ _ _ G4.out G8.out).mono ?_; rintro e w9 ⟨rfl, g⟩; replace L := hidP (L.out.below g); replace X := hidP (X.out.below g X.out.lt); clear g
  refine hK.out _ _ ⟨L.out.b1, X.out⟩ fun hH => ?_; clear hK K; try simp only [zX,zY]
  refine zt1 4 ?_; refine ztn (h := ?_); try simp only [zX,zY]
  refine zte ?_
  refine zdn ?_
  go_wp2
  go_ret
  exact ⟨rfl, L.out.bl⟩
theorem contract (H : Type) (enc : TypeId × Value -> H) (W : World) (base : Nat) (args : Array Value) (ds gs : List (DataW H)) (before : List MemPlace)
 (hval : ∀ (j : Nat) t v, Tryz.f4.params[j]? = some t -> args[j]? = some v -> Value.okWide Tryz.prog W .any base t v)
 (hW : DataW.Whole enc Tryz.prog Tryz.f4.params.toList Rows.fnExactEvenSpec.vars false W args.toList ds gs before) :
 Calls Tryz.prog 4 args W fun e W' => ∃ v, e = .returned v /\ Rows.fnExactEvenSpec.post enc Tryz.prog Tryz.f4 false true false false W args v W' := by
 have hW' := hW
 obtain ⟨p, q, hA0, hV, rfl, hfz, hnd⟩ := hW
 have hA : DataW.TrodAll enc Tryz.prog W 0 (fun _ => true) true Tryz.f4.params.toList args.toList ds p := hA0
 rw [Tryz.params4] at hA hval
 obtain ⟨v0, vs0, d0, ds0, p0, q0, e0, rfl, rfl, h0, r0⟩ := trodAll_cons hA
 obtain ⟨v1, vs1, d1, ds1, p1, q1, rfl, rfl, rfl, h1, r1⟩ := trodAll_cons r0
 obtain ⟨rfl, rfl, rfl⟩ := trodAll_nil r1
 have e0' : args = #[v0, v1] := by cases args; simp_all
 subst e0'
 obtain ⟨rfl, rfl⟩ := trodVars_none hV
 obtain ⟨p, rfl, hr, hp, hz⟩ := openWorld (hval 0 30 v0 rfl rfl) h0
 obtain ⟨i, rfl, _, _, j1⟩ := open_int Tryz.underlying3 (hval 1 3 v1 rfl rfl) h1
 refine (law_any p hr hz i (by simpa [Gen.I64, Lit.wf, IntKind.min, IntKind.max, IntKind.signed, IntKind.bits] using j1) W hp).mono fun e W' ⟨he, hb⟩ => ?_
 subst he
 exact ⟨_, rfl, post_true laidOut (by kernel_rfl) (by kernel_rfl) Tryz.underlying4 rfl rfl hW' hb⟩
theorem lifted (os : Os) (started : os.Started) (H : Type) (enc : TypeId × Value -> H) :
 ReturnsInHanded {} Tryz.checked os 4 .any (Rows.fnExactEvenSpec.pre6 enc Tryz.prog Tryz.f4 Rows.fnExactEvenRow.domain false) (Rows.fnExactEvenSpec.post enc Tryz.prog Tryz.f4 false true false false) := by
 refine returnsInHanded_of_change (C := Tryz.checked) own started (by kernel_rfl) Tryz.func4
  (ChangeSpec.witness6 (enc := enc) (C := Tryz.checked) false ⟨#[], #[.agg Qa1, .int .i64 0], []⟩ 8 (by kernel_rfl) (by kernel_rfl) (by kernel_rfl) (by kernel_rfl)) ?_
 intro W base args ds gs before hval0 hW _ _
 exact contract H enc W base args ds gs before hval0 hW
theorem proved : Rows.FnExactEvenSaid :=
 OpenClaim.holds_of_wide 4 Tryz.f4 rfl rfl rfl rfl rfl rfl rfl ⟨rfl, rfl, rfl, rfl, rfl⟩ rfl rfl rfl rfl rfl (by kernel_rfl) Tryz.func4 (by kernel_rfl)
  (of_decide_eq_true (by kernel_rfl)) (by unfold Func.isWrapper; first | (rw [if_pos (by decide +kernel)]; kernel_rfl) | (rw [if_neg (by decide +kernel)]; exact ⟨rfl, rfl⟩))
  (fun os started H enc _ => lifted os started H enc)
end Go.Proofs.YtkmkldjipihceaaGreat.EvenX
namespace Go.Proofs.YtkmkldjipihceaaGreat
theorem even_holds : Rows.FnExactEvenSaid := EvenX.proved
end Go.Proofs.YtkmkldjipihceaaGreat
