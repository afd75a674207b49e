/-
  The specification's Leader. No condition but the sizes that every text and number has.
-/
import Derived.Test.YtkmkldjipihceaaGreatWoS
import Derived.Test.YtkmkldjipihceaaGreatWoI
set_option linter.unusedVariables false
set_option linter.unusedSimpArgs false
set_option maxRecDepth 100000
set_option maxHeartbeats 8000000
set_option maxRecDepth 100000
set_option maxHeartbeats 8000000
namespace Go.Proofs.YtkmkldjipihceaaGreat.Gen
open ChangeShapes WideShapes ChangeAt RowKit Joins Deep Base
theorem Qeq (p : WC) (h : WAsk p) (w : World) (hp : WAt w p) :
 Calls Tryz.prog 6 #[.agg (Qam p)] w fun e w' => e = .returned (.int .i64 (Qb1 p)) /\ Below w.heap.size w w' := by
 have EW : Hid (∀ W : World, Below w.heap.size w W -> Calls Tryz.prog 17 #[.agg (Qam p)] W fun e w' => e = .returned (.bool (Qat p)) /\ Below W.heap.size W w') := fun W g => Qec p h W (hp.below g)
 have HN := hidP hp.na
 have hnl := h.f.nl
 have HL : Hid (Qb1 p = if Qat p = true then Qa6 p.ns p.ns.length else -1) := rfl
 have HE : Hid (Qat p = true -> (p.ns.length : Int) = p.size) := fun h => Qe8 h
 have P0 := hidP (Blk.new w 39 (Qam p))
 have B0 := hidP (show Below w.heap.size w (w.alloc (.cells (Qam p) 39)) from Qab (Below.refl _ _) _)
 have HC : Hid (Qam p = Qam p) := rfl
 clear hp h
 generalize Qat p = wb at EW HL HE
 generalize Qb1 p = lb at HL ⊢
 go_enter Tryz.func6, Tryz.ntmps6
 go_upto_region 2 with fail
 refine wp_region_lit ?_
 refine Qav rfl 39 _ rfl (b := w.heap.size) rfl P0.out Tryz.underlying39 infoW ?_
 go_wp2_with fail
 refine (EW.out _ B0.out).mono ?_
 rintro e w1 ⟨rfl, g⟩
 replace B0 := hidP (via0 g B0.out)
 replace P0 := hidP (P0.out.below g P0.out.lt)
 clear g EW
 cases wb
 . go_wp2
   go_ret
   exact ⟨by rw [HL.out]; rfl, B0.out⟩
 have HSZ := hidP (HE.out rfl)
 clear HE
 replace HL := hidP (show lb = Qa6 p.ns p.ns.length by rw [HL.out]; rfl)
 go_wp2
 go_loopw [3, 4] (fun q i W => ∃ n : Nat, i = .int .i64 (n : Int) /\ n <= p.ns.length /\ q = .int .i64 (Qa6 p.ns n) /\ Hid (Below w.heap.size w W) /\ Hid (Blk W w.heap.size 39 (Qam p))) (fun _ i _ => p.ns.length - (intOf i).toNat)
 case atStart => exact ⟨0, rfl, by omega, rfl, B0, P0⟩
 case round =>
  clear B0 P0
  obtain ⟨n, rfl, hn, rfl, hB, hX⟩ := hrel
  have x4 := hX.out.cell (i := 4) (v := .int .i64 p.size) rfl
  have x5 := hX.out.cell (i := 5) (v := .slice p.nA p.ns.length p.nc) rfl
  have q0 := hX.out.lt
  by_cases hlt : n < p.ns.length
  . obtain ⟨bn, on, hE, hbn, hIn⟩ : ∃ b o, p.nA = some ⟨b, o, none⟩ /\ b < w.heap.size /\ In w b o p.ns := by
     rcases HN.out with h | h
     . rw [h] at hlt; simp at hlt
     . exact h
    have hi1 : (n : Int) < p.size := by have := HSZ.out; omega
    have hi2 : (n : Int) < (p.ns.length : Int) := by omega
    have hi0 : (0 : Int) <= (n : Int) := by omega
    rw [hE] at x5
    clear hE
    have HI2 := hIn.below hbn hB.out
    have cr : wr.cell? ⟨bn, on + n * 26 + 12, none⟩ = some (.int .i64 p.ns[n].role) := HI2.cell n hlt (f := 12) rfl
    have hst := hidP (Qhc p.ns n hlt)
    go_upto_region 7 with fail
    by_cases h1 : p.ns[n].role = 2
    case neg =>
     have hF := hidP (show Qa6 p.ns (n + 1) = Qa6 p.ns n by rw [hst.out, if_neg (fun e => h1 e.1)])
     have hb1 : (p.ns[n].role == 2) = false := by simp [h1]
     have hH : (fun (V : World) => V.cell? ⟨w.heap.size, 5, none⟩ = some (.slice (some ⟨bn, on, none⟩) p.ns.length p.nc) /\ V.cell? ⟨bn, on + n * 26 + 12, none⟩ = some (.int .i64 p.ns[n].role)) wr.drew := ⟨x5, cr⟩
     clear x4 x5 cr HI2 hIn hst q0
     generalize Qa6 p.ns n = bz at *
     refine wp_region_noPanic ?_
     refine wp_region_held_drew (S := (fun (V : World) => V.cell? ⟨w.heap.size, 5, none⟩ = some (.slice (some ⟨bn, on, none⟩) p.ns.length p.nc) /\ V.cell? ⟨bn, on + n * 26 + 12, none⟩ = some (.int .i64 p.ns[n].role))) (by kernel_rfl) hH (fun hH => ?_)
     refine ztk [0,1,2,3,4,5,6,7] ?_; repeat (refine ztn (hS := hH) (h := ?_); try simp only [zX,zY])
     refine zte ?_
     refine ztk [8,9,10,11,12,13,14,15,16,17,18,19,20,21,22,23,24,25,26] ?_; repeat (refine ztu (hS := hH) (h := ?_); try simp only [zX,zY])
     refine zte ?_
     refine ztk [27] ?_; repeat (refine ztn (hS := hH) (h := ?_); try simp only [zX,zY])
     refine zte ?_
     refine zdn ?_
     have hBd := hidP hB.out.drew
     have hXd := hidP (hX.out.below (Below.refl _ _).drew hX.out.lt)
     go_wp2
     exact ⟨⟨n + 1, by go_num, by omega, by rw [hF.out], hBd, hXd⟩, by simp [intOf]; omega⟩
    have hb1 : (p.ns[n].role == 2) = true := by simp [h1]
    rcases best_nat p.ns n with hb | ⟨m, hb, hm⟩
    . have hF := hidP (show Qa6 p.ns (n + 1) = (n : Int) by rw [hst.out, if_pos ⟨h1, Or.inl (by omega)⟩])
      have hH : (fun (V : World) => V.cell? ⟨w.heap.size, 5, none⟩ = some (.slice (some ⟨bn, on, none⟩) p.ns.length p.nc) /\ V.cell? ⟨bn, on + n * 26 + 12, none⟩ = some (.int .i64 p.ns[n].role)) wr.drew := ⟨x5, cr⟩
      rw [hb]
      clear x4 x5 cr HI2 hIn hst q0 h1
      refine wp_region_noPanic ?_
      refine wp_region_held_drew (S := (fun (V : World) => V.cell? ⟨w.heap.size, 5, none⟩ = some (.slice (some ⟨bn, on, none⟩) p.ns.length p.nc) /\ V.cell? ⟨bn, on + n * 26 + 12, none⟩ = some (.int .i64 p.ns[n].role))) (by kernel_rfl) hH (fun hH => ?_)
      refine ztk [0,1,2,3,4,5,6,7,8,9,10] ?_; repeat (refine ztn (hS := hH) (h := ?_); try simp only [zX,zY])
      refine zte ?_
      refine ztk [11,12,13,14,15,16,17,18,19,20,21,22,23,24,25] ?_; repeat (refine ztu (hS := hH) (h := ?_); try simp only [zX,zY])
      refine zte ?_
      refine ztk [26,27] ?_; repeat (refine ztn (hS := hH) (h := ?_); try simp only [zX,zY])
      refine zte ?_
      refine zdn ?_
      have hBd := hidP hB.out.drew
      have hXd := hidP (hX.out.below (Below.refl _ _).drew hX.out.lt)
      go_wp2
      exact ⟨⟨n + 1, by go_num, by omega, by rw [hF.out], hBd, hXd⟩, by simp [intOf]; omega⟩
    . have hmN : m < p.ns.length := by omega
      have ct : wr.cell? ⟨bn, on + n * 26 + 1, none⟩ = some (.int .i64 p.ns[n].te) := HI2.cell n hlt (f := 1) rfl
      have dt : wr.cell? ⟨bn, on + m * 26 + 1, none⟩ = some (.int .i64 p.ns[m].te) := HI2.cell m hmN (f := 1) rfl
      have hj0 : (0 : Int) <= (m : Int) := by omega
      have hj1 : (m : Int) < (p.ns.length : Int) := by omega
      have hj2 : ¬ (m : Int) < 0 := by omega
      have hte := teAt_nat hmN
      have hH : (fun (V : World) => V.cell? ⟨w.heap.size, 5, none⟩ = some (.slice (some ⟨bn, on, none⟩) p.ns.length p.nc) /\ V.cell? ⟨bn, on + n * 26 + 12, none⟩ = some (.int .i64 p.ns[n].role) /\ V.cell? ⟨bn, on + n * 26 + 1, none⟩ = some (.int .i64 p.ns[n].te) /\ V.cell? ⟨bn, on + m * 26 + 1, none⟩ = some (.int .i64 p.ns[m].te)) wr.drew := ⟨x5, cr, ct, dt⟩
      have hF := hidP (show Qa6 p.ns (n + 1) = if p.ns[m].te < p.ns[n].te then (n : Int) else (m : Int) by
       rw [hst.out, hb, hte]
       by_cases h2 : p.ns[m].te < p.ns[n].te
       . rw [if_pos ⟨h1, Or.inr h2⟩, if_pos h2]
       . rw [if_neg (fun e => by rcases e.2 with e | e<;>omega), if_neg h2])
      rw [hb]
      clear x4 x5 cr ct dt HI2 hIn hst q0 hte h1 hb
      by_cases h2 : p.ns[m].te < p.ns[n].te
      all_goals
       first
       | replace hF := hidP (hF.out.trans (if_pos h2))
       | replace hF := hidP (hF.out.trans (if_neg h2))
       refine wp_region_noPanic ?_
       refine wp_region_held_drew (S := (fun (V : World) => V.cell? ⟨w.heap.size, 5, none⟩ = some (.slice (some ⟨bn, on, none⟩) p.ns.length p.nc) /\ V.cell? ⟨bn, on + n * 26 + 12, none⟩ = some (.int .i64 p.ns[n].role) /\ V.cell? ⟨bn, on + n * 26 + 1, none⟩ = some (.int .i64 p.ns[n].te) /\ V.cell? ⟨bn, on + m * 26 + 1, none⟩ = some (.int .i64 p.ns[m].te))) (by kernel_rfl) hH (fun hH => ?_)
       refine ztk [0,1,2,3,4,5,6,7,8,9,10,11,12,13,14,15,16,17,18,19,20,21,22,23,24,25,26,27] ?_; repeat (refine ztn (hS := hH) (h := ?_); try simp only [zX,zY])
       refine zte ?_
       refine zdn ?_
       have hBd := hidP hB.out.drew
       have hXd := hidP (hX.out.below (Below.refl _ _).drew hX.out.lt)
       go_wp2
       exact ⟨⟨n + 1, by go_num, by omega, by rw [hF.out], hBd, hXd⟩, by simp [intOf]; omega⟩
  . have hF := hidP (show Qa6 p.ns n = lb by rw [HL.out]; congr 1; omega)
    have hge : ¬ (n : Int) < p.size := by have := HSZ.out; omega
    rw [hF.out]
    go_wp2
    go_ret
    exact ⟨rfl, hB.out⟩
end Go.Proofs.YtkmkldjipihceaaGreat.Gen
namespace Go.Proofs.YtkmkldjipihceaaGreat.LeaderX
open ChangeShapes WideShapes ChangeAt RowKit Joins Deep Base Gen
theorem own : ownKnob Tryz.prog.godebug = none := by kernel_rfl
theorem laidOut : laidOutB Tryz.prog = true := by kernel_rfl
structure Lq (w W : World) (pl : Array Value) : Prop where
  b1 : Blk W w.heap.size 30 pl
  bl : Below w.heap.size w W
theorem Lq.below {w W W' : World} {pl : Array Value} (h : Lq w W pl) (g : Below W.heap.size W W') : Lq w W' pl := ⟨h.b1.below g h.b1.lt, via0 g h.bl⟩
def GoodW (p : WC) (W : World) (z : Array Value) : Prop := ∃ q : WC, z = Qam q /\ SameW q p /\ WAt W q
theorem GoodW.below {p : WC} {W W' : World} {z : Array Value} (h : GoodW p W z) (g : Below W.heap.size W W') : GoodW p W' z := by
 obtain ⟨q, e, s, a⟩ := h; exact ⟨q, e, s, a.below g⟩
theorem GoodW.size {p : WC} {W : World} {z : Array Value} (h : GoodW p W z) : z.size = 11 := by obtain ⟨q, e, _⟩ := h; rw [e]; rfl
theorem GoodW.one {p : WC} {W : World} {z : Array Value} (h : GoodW p W z) : z.all (·.oneCell') = true := by obtain ⟨q, e, _⟩ := h; rw [e]; exact cellsW_one q
theorem law_any (p : WC) (hr : WRight p) (hz : I64 p.size) (w : World) (hp : WAt w p) :
 Calls Tryz.prog 3 #[.agg (Qam p)] w fun e w' => e = .returned (.bool true) /\ Below w.heap.size w w' := by
 have Z0 : Hid (∀ W : World, Below w.heap.size w W -> Calls Tryz.prog 5 #[.agg (Qam p), .int .i64 1048576] W fun e w' => (∃ r : Int, e = .returned (.int .i64 r) /\ (r < 0 ∨ (0 <= r /\ WFit p))) /\ Below W.heap.size W w') := fun W g => Qhr p hr W (hp.below g)
 have CT0 : Hid (WFit p -> ∀ W : World, Below w.heap.size w W -> Calls Tryz.prog 7 #[.agg (Qam p)] W fun e w' => ∃ q, e = .returned (.agg q) /\ Below W.heap.size W w' /\ GoodW p w' q) := fun hf W g => (Qhj p hf W (hp.below g)).mono fun e w' h => by
  obtain ⟨q, e1, h1, h2, h3⟩ := h
  exact ⟨_, e1, h3, q, rfl, h1, h2.at⟩
 have CE0 : Hid (WFit p -> ∀ (W : World) (x y : Array Value), GoodW p W x -> GoodW p W y -> Calls Tryz.prog 9 #[.agg x, .agg y] W fun e w' => e = .returned (.bool true) /\ Below W.heap.size W w') := fun hf W x y hx hy => by
  obtain ⟨a, rfl, sa, wa⟩ := hx
  obtain ⟨b, rfl, sb, wb⟩ := hy
  exact Qg1 ⟨sa.ro.trans sb.ro.symm, sa.wi.trans sb.wi.symm, sa.le.trans sb.le.symm, sa.ke.trans sb.ke.symm, sa.size.trans sb.size.symm, sa.ns.trans sb.ns.symm, sa.ms.trans sb.ms.symm, sa.ss.trans sb.ss.symm, sa.fs.trans sb.fs.symm, sa.hs.trans sb.hs.symm, sa.ds.trans sb.ds.symm⟩ (hf.same sb) W wa wb
 have CP0 : Hid (WFit p -> ∀ (W : World) (x : Array Value), GoodW p W x -> Calls Tryz.prog 6 #[.agg x] W fun e w' => e = .returned (.int .i64 (Qb1 p)) /\ Below W.heap.size W w') := fun hf W x hx => by
  obtain ⟨a, rfl, sa, wa⟩ := hx
  rw [← Qdy sa]
  exact Qeq a ((WAsk.of hr hf hz).same sa) W wa
 have CI0 : Hid (WFit p -> ∀ (W : World) (x : Array Value), GoodW p W x -> Calls Tryz.prog 8 #[.agg x] W fun e w' => e = .returned (.int .i64 (Qb1 p)) /\ Below W.heap.size W w') := fun hf W x hx => by
  obtain ⟨a, rfl, sa, wa⟩ := hx
  rw [← Qdy sa]
  exact Qez a ((WAsk.of hr hf hz).same sa) W wa
 have I1 : Hid ((Tryz.prog.info? 30).map (·.size) = some (Qam p).size) := by show _ = _; kernel_rfl
 have L : Hid (Lq w (w.alloc (.cells (Qam p) 30)) (Qam p)) := ⟨Blk.new w _ _, Qab (Below.refl _ _) _⟩
 clear hr hp hz
 generalize hB : (Qb1 p) = B at *
 generalize hpl : Qam p = pl at *
 clear hB hpl
 go_enter Tryz.func3, Tryz.ntmps3
 go_upto_region 2 with fail
 refine wp_region_lit ?_
 refine Qav rfl 30 _ rfl (b := w.heap.size) rfl L.out.b1 Tryz.underlying30 I1.out ?_
 go_wp2_with fail
 refine (Z0.out _ L.out.bl).mono ?_
 rintro e w1 ⟨⟨r, rfl, hz⟩, g⟩
 replace L := hidP (L.out.below g)
 clear g
 rcases hz with hz | ⟨hz, hf⟩
 . go_wp2
   go_ret
   exact ⟨rfl, L.out.bl⟩
 have nz : ¬ r < 0 := by omega
 have CT := hidP (CT0.out hf)
 have CP := hidP (CP0.out hf)
 have CI := hidP (CI0.out hf)
 have CE := hidP (CE0.out hf)
 clear CT0 CP0 CI0 CE0 Z0 hf
 go_upto_region 5 with fail
 refine wp_region_lit ?_
 refine Qav rfl 30 _ rfl (b := w.heap.size) rfl L.out.b1 Tryz.underlying30 I1.out ?_
 go_wp2_with fail
 refine (CT.out _ L.out.bl).mono ?_
 rintro e w2 ⟨q0, rfl, g, hg⟩
 replace L := hidP (L.out.below g)
 have G0 := hidP hg
 clear g hg
 go_wp2_with fail
 refine (CP.out _ _ G0.out).mono ?_
 rintro e w3 ⟨rfl, g⟩
 replace L := hidP (L.out.below g)
 clear g G0
 go_upto_region 6 with fail
 refine wp_region_lit ?_
 refine Qav rfl 30 _ rfl (b := w.heap.size) rfl L.out.b1 Tryz.underlying30 I1.out ?_
 go_wp2_with (refine (CT.out _ L.out.bl).mono ?_)
 rintro e w4 ⟨q, rfl, g, hg⟩
 have G4 := hidP hg
 have I3 : Hid ((Tryz.prog.info? 39).map (·.size) = some q.size) := by show _ = _; rw [hg.size]; kernel_rfl
 replace L := hidP (L.out.below g)
 clear g hg
 dsimp only
 apply_assumption
 iterate 3 go_step
 refine Qa7 rfl 39 _ _ rfl (g := w4.heap.size) (cells := q) rfl rfl (Blk.new w4 39 Qa0) I3.out (by rw [G4.out.size]; rfl) G4.out.one ?_
 refine wpList_nil ?_
 rw [World.setRow_alloc_new]
 have X : Hid (Blk (w4.alloc (.cells q 39)) w4.heap.size 39 q) := Blk.new w4 _ _
 replace L := hidP (L.out.below (Qab (Below.refl _ _) (.cells q 39)))
 replace G4 := hidP (G4.out.below (Qab (Below.refl _ _) (.cells q 39)))
 go_upto_region 7 with fail
 refine wp_region_lit ?_
 refine Qav rfl 39 _ rfl (b := w4.heap.size) rfl X.out Tryz.underlying39 I3.out ?_
 go_wp2_with fail
 refine (CI.out _ _ G4.out).mono ?_
 rintro e w7 ⟨rfl, g⟩
 replace L := hidP (L.out.below g)
 replace X := hidP (X.out.below g X.out.lt)
 replace G4 := hidP (G4.out.below g)
 clear g
 have hbb : (B != B) = false := by simp
 all_goals
  go_wp2_with fail
  refine wp_region_noPanic ?_
  refine wp_region_held_drew (S := (fun (W : World) => Blk W w.heap.size 30 pl /\ Blk W w4.heap.size 39 q)) (by kernel_rfl) ?_ (fun hH => ?_)
  . exact ⟨L.out.b1, X.out⟩
  refine zt1 0 ?_; refine ztn (hy := fun w' hSw => Qbl rfl rfl hSw.2 Tryz.underlying39 I3.out) (h := ?_); try simp only [zX,zY]
  refine zte ?_
  refine zt1 1 ?_; refine ztn (hy := fun w' hSw => Qbl rfl rfl hSw.1 Tryz.underlying30 I1.out) (h := ?_); try simp only [zX,zY]
  refine zte ?_
  refine zR1 2 (fun K hK => ?_)
  simp only [zG]
  go_simp
  refine (CT.out _ (L.out.bl.drew)).mono ?_; rintro e w8 ⟨q8, rfl, g, hg⟩; have gd := via0 g (Below.drew (Below.refl _ _)); replace L := hidP (L.out.below gd); replace X := hidP (X.out.below gd X.out.lt); replace G4 := hidP (G4.out.below gd); have G8 := hidP hg; clear g gd hg
  refine hK.out _ _ ⟨L.out.b1, X.out⟩ fun hH => ?_; clear hK K; try simp only [zX,zY]
  refine zR1 3 (fun K hK => ?_)
  simp only [zG]
  go_simp
  refine (CE.out _ _ _ G4.out G8.out).mono ?_; rintro e w9 ⟨rfl, g⟩; replace L := hidP (L.out.below g); replace X := hidP (X.out.below g X.out.lt); clear g
  refine hK.out _ _ ⟨L.out.b1, X.out⟩ fun hH => ?_; clear hK K; try simp only [zX,zY]
  refine zt1 4 ?_; refine ztn (h := ?_); try simp only [zX,zY]
  refine zte ?_
  refine zdn ?_
  go_wp2
  go_ret
  exact ⟨rfl, L.out.bl⟩
theorem contract (H : Type) (enc : TypeId × Value -> H) (W : World) (base : Nat) (args : Array Value) (ds gs : List (DataW H)) (before : List MemPlace)
 (hval : ∀ (j : Nat) t v, Tryz.f3.params[j]? = some t -> args[j]? = some v -> Value.okWide Tryz.prog W .any base t v)
 (hW : DataW.Whole enc Tryz.prog Tryz.f3.params.toList Rows.fnExactLeaderSpec.vars false W args.toList ds gs before) :
 Calls Tryz.prog 3 args W fun e W' => ∃ v, e = .returned v /\ Rows.fnExactLeaderSpec.post enc Tryz.prog Tryz.f3 false true false false W args v W' := by
 have hW' := hW
 obtain ⟨p, q, hA0, hV, rfl, hfz, hnd⟩ := hW
 have hA : DataW.TrodAll enc Tryz.prog W 0 (fun _ => true) true Tryz.f3.params.toList args.toList ds p := hA0
 rw [Tryz.params3] at hA hval
 obtain ⟨v0, vs0, d0, ds0, p0, q0, e0, rfl, rfl, h0, r0⟩ := trodAll_cons hA
 obtain ⟨rfl, rfl, rfl⟩ := trodAll_nil r0
 have e0' : args = #[v0] := by cases args; simp_all
 subst e0'
 obtain ⟨rfl, rfl⟩ := trodVars_none hV
 obtain ⟨p, rfl, hr, hp, hz⟩ := openWorld (hval 0 30 v0 rfl rfl) h0
 refine (law_any p hr hz W hp).mono fun e W' ⟨he, hb⟩ => ?_
 subst he
 exact ⟨_, rfl, post_true laidOut (by kernel_rfl) (by kernel_rfl) Tryz.underlying4 rfl rfl hW' hb⟩
theorem lifted (os : Os) (started : os.Started) (H : Type) (enc : TypeId × Value -> H) :
 ReturnsInHanded {} Tryz.checked os 3 .any (Rows.fnExactLeaderSpec.pre6 enc Tryz.prog Tryz.f3 Rows.fnExactLeaderRow.domain false) (Rows.fnExactLeaderSpec.post enc Tryz.prog Tryz.f3 false true false false) := by
 refine returnsInHanded_of_change (C := Tryz.checked) own started (by kernel_rfl) Tryz.func3
  (ChangeSpec.witness6 (enc := enc) (C := Tryz.checked) false ⟨#[], #[.agg Qa0], []⟩ 8 (by kernel_rfl) (by kernel_rfl) (by kernel_rfl) (by kernel_rfl)) ?_
 intro W base args ds gs before hval0 hW _ _
 exact contract H enc W base args ds gs before hval0 hW
theorem proved : Rows.FnExactLeaderSaid :=
 OpenClaim.holds_of_wide 3 Tryz.f3 rfl rfl rfl rfl rfl rfl rfl ⟨rfl, rfl, rfl, rfl, rfl⟩ rfl rfl rfl rfl rfl (by kernel_rfl) Tryz.func3 (by kernel_rfl)
  (of_decide_eq_true (by kernel_rfl)) (by unfold Func.isWrapper; first | (rw [if_pos (by decide +kernel)]; kernel_rfl) | (rw [if_neg (by decide +kernel)]; exact ⟨rfl, rfl⟩))
  (fun os started H enc _ => lifted os started H enc)
end Go.Proofs.YtkmkldjipihceaaGreat.LeaderX
namespace Go.Proofs.YtkmkldjipihceaaGreat
theorem leader_holds : Rows.FnExactLeaderSaid := LeaderX.proved
end Go.Proofs.YtkmkldjipihceaaGreat
