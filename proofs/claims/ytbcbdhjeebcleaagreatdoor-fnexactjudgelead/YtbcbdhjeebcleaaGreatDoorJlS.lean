/-
  The specification's JudgeLead. No condition but the sizes that every text and number has.
-/
import Derived.Test.YtbcbdhjeebcleaaGreatDoorWoS
set_option linter.unusedVariables false
set_option linter.unusedSimpArgs false
set_option maxRecDepth 100000
set_option maxHeartbeats 8000000
namespace Go.Proofs.YtbcbdhjeebcleaaGreatDoor.Gen
open ChangeShapes WideShapes ChangeAt RowKit Joins Deep Base
theorem clash {l : List PC} {n m : Nat} (hn : n < l.length) (hm : m < n) (h1 : l[n].role = 2) (h2 : l[m].role = 2) (h3 : l[n].te = l[m].te) : oneLead l = false := by
 refine Qcv (t := l[n].te) ?_
 have a := cnt_all l (n + 1) l[n].te
 have b := Qb3 l n hn l[n].te
 have c := cnt_mono l (m + 1) n (by omega) l[n].te
 have d := Qb3 l m (by omega) l[n].te
 rw [if_pos ⟨h1, rfl⟩] at b
 rw [if_pos ⟨h2, h3.symm⟩] at d
 omega
theorem Qgf (p : WC) (h : WAsk p) (w : World) (hp : WAt w p) :
 Calls Tryz.prog 5 #[.agg (Qad p)] w fun e w' => e = .returned (.bool (leadB p)) /\ Below w.heap.size w w' := by
 have EW : Hid (∀ W : World, Below w.heap.size w W -> Calls Tryz.prog 14 #[.agg (Qad p)] W fun e w' => e = .returned (.bool (Qai p)) /\ Below W.heap.size W w') := fun W g => Qdu p h W (hp.below g)
 have HN := hidP hp.na
 have hnl := h.f.nl
 have HL : Hid (leadB p = (Qai p && oneLead p.ns)) := rfl
 have HE : Hid (Qai p = true -> (p.ns.length : Int) = p.size) := fun h => world_len h
 have P0 := hidP (Blk.new w 39 (Qad p))
 have B0 := hidP (show Below w.heap.size w (w.alloc (.cells (Qad p) 39)) from Qaa (Below.refl _ _) _)
 have HC : Hid (Qad p = Qad p) := rfl
 clear hp h
 generalize Qai p = wb at EW HL HE
 generalize leadB p = lb at HL ⊢
 go_enter Tryz.func5, Tryz.ntmps5
 go_upto_region 1 with fail
 refine wp_region_lit ?_
 refine Qaj rfl 39 _ rfl (b := w.heap.size) rfl P0.out Tryz.underlying39 infoW ?_
 go_wp2_with fail
 refine (EW.out _ B0.out).mono ?_
 rintro e w1 ⟨rfl, g⟩
 replace B0 := hidP (via0 g B0.out)
 replace P0 := hidP (P0.out.below g P0.out.lt)
 clear g EW
 cases wb
 . go_wp2
   go_ret
   exact ⟨by rw [HL.out]; rfl, B0.out⟩
 have hsz := HE.out rfl
 clear HE
 replace HL := hidP (show lb = oneLead p.ns by rw [HL.out]; rfl)
 go_wp2
 go_loopw [3] (fun i W => ∃ n : Nat, i = .int .i64 (n : Int) /\ n <= p.ns.length /\ Hid (Below w.heap.size w W) /\ Hid (Blk W w.heap.size 39 (Qad p)) /\ Hid (∀ t, cnt (p.ns.take n) t <= 1)) (fun i _ => p.ns.length - (intOf i).toNat)
 case atStart => exact ⟨0, rfl, by omega, B0, P0, fun t => by simp [cnt]⟩
 case round =>
  clear B0 P0
  obtain ⟨n, rfl, hn, hB, hX, hD⟩ := hrel
  have x4 := hX.out.cell (i := 4) (v := .int .i64 p.size) rfl
  have x5 := hX.out.cell (i := 5) (v := .slice p.nA p.ns.length p.nc) rfl
  have q0 := hX.out.lt
  by_cases hlt : n < p.ns.length
  . obtain ⟨bn, on, hE, hbn, hIn⟩ : ∃ b o, p.nA = some ⟨b, o, none⟩ /\ b < w.heap.size /\ In w b o p.ns := by
     rcases HN.out with h | h
     . rw [h] at hlt; simp at hlt
     . exact h
    have hi1 : (n : Int) < p.size := by omega
    have hAn := hidP hE
    have HI := hidP hIn
    rw [hE] at x5
    clear hE hIn
    go_wp2
    go_loopw [4] (fun i W => ∃ m : Nat, i = .int .i64 (m : Int) /\ m <= n /\ Hid (Below w.heap.size w W) /\ Hid (Blk W w.heap.size 39 (Qad p)) /\ Hid (p.ns[n].role = 2 -> cnt (p.ns.take m) p.ns[n].te = 0)) (fun i _ => n - (intOf i).toNat)
    case atStart => exact ⟨0, rfl, by omega, hB, hX, fun _ => by simp [cnt]⟩
    case round =>
     clear hB hX x4 x5 q0
     obtain ⟨m, rfl, hm, hB, hX, hK⟩ := hrel
     by_cases hltm : m < n
     . have hmi : (m : Int) < (n : Int) := by omega
       have hmN : m < p.ns.length := by omega
       have hi2 : (n : Int) < (p.ns.length : Int) := by omega
       have hi3 : (m : Int) < (p.ns.length : Int) := by omega
       have hi4 : (m : Int) < p.size := by omega
       have hi0 : (0 : Int) <= (n : Int) := by omega
       have hj0 : (0 : Int) <= (m : Int) := by omega
       have x5 := hX.out.cell (i := 5) (v := .slice p.nA p.ns.length p.nc) rfl
       have q0 := hX.out.lt
       rw [hAn.out] at x5
       have HI2 := HI.out.below hbn hB.out
       have cr : wr.cell? ⟨bn, on + n * 26 + 12, none⟩ = some (.int .i64 p.ns[n].role) := HI2.cell n hlt (f := 12) rfl
       have ct : wr.cell? ⟨bn, on + n * 26 + 1, none⟩ = some (.int .i64 p.ns[n].te) := HI2.cell n hlt (f := 1) rfl
       have dr : wr.cell? ⟨bn, on + m * 26 + 12, none⟩ = some (.int .i64 p.ns[m].role) := HI2.cell m hmN (f := 12) rfl
       have dt : wr.cell? ⟨bn, on + m * 26 + 1, none⟩ = some (.int .i64 p.ns[m].te) := HI2.cell m hmN (f := 1) rfl
       have hT := hidP (Qb3 p.ns m hmN p.ns[n].te)
       have hcl := hidP (fun a b c => clash hlt hltm a b c)
       clear HI2
       go_upto_region 9 with fail
       have hH : (fun (V : World) => V.cell? ⟨w.heap.size, 5, none⟩ = some (.slice (some ⟨bn, on, none⟩) p.ns.length p.nc) /\ V.cell? ⟨bn, on + n * 26 + 12, none⟩ = some (.int .i64 p.ns[n].role) /\ V.cell? ⟨bn, on + n * 26 + 1, none⟩ = some (.int .i64 p.ns[n].te) /\ V.cell? ⟨bn, on + m * 26 + 12, none⟩ = some (.int .i64 p.ns[m].role) /\ V.cell? ⟨bn, on + m * 26 + 1, none⟩ = some (.int .i64 p.ns[m].te)) wr.drew := ⟨x5, cr, ct, dr, dt⟩
       refine wp_region_noPanic ?_
       refine wp_region_held_drew (S := (fun (V : World) => V.cell? ⟨w.heap.size, 5, none⟩ = some (.slice (some ⟨bn, on, none⟩) p.ns.length p.nc) /\ V.cell? ⟨bn, on + n * 26 + 12, none⟩ = some (.int .i64 p.ns[n].role) /\ V.cell? ⟨bn, on + n * 26 + 1, none⟩ = some (.int .i64 p.ns[n].te) /\ V.cell? ⟨bn, on + m * 26 + 12, none⟩ = some (.int .i64 p.ns[m].role) /\ V.cell? ⟨bn, on + m * 26 + 1, none⟩ = some (.int .i64 p.ns[m].te))) (by kernel_rfl) hH (fun hH => ?_)
       clear x5 cr ct dr dt q0
       by_cases h1 : p.ns[n].role = 2
       case neg =>
        have hF := hidP (show p.ns[n].role = 2 -> cnt (p.ns.take (m + 1)) p.ns[n].te = 0 from fun h => absurd h h1)
        have hb1 : (p.ns[n].role == 2) = false := by simp [h1]
        refine ztk [0,1,2,3,4,5,6,7] ?_; repeat (refine ztn (hS := hH) (h := ?_); try simp only [zX,zY])
        refine zte ?_
        refine ztk [8,9,10,11,12,13,14] ?_; repeat (refine ztu (hS := hH) (h := ?_); try simp only [zX,zY])
        refine zte ?_
        refine ztk [15,16] ?_; repeat (refine ztn (hS := hH) (h := ?_); try simp only [zX,zY])
        refine zte ?_
        refine ztk [17,18,19,20,21,22,23,24,25,26,27,28,29,30,31] ?_; repeat (refine ztu (hS := hH) (h := ?_); try simp only [zX,zY])
        refine zte ?_
        refine ztk [32] ?_; repeat (refine ztn (hS := hH) (h := ?_); try simp only [zX,zY])
        refine zte ?_
        refine zdn ?_
        have hBd := hidP hB.out.drew
        have hXd := hidP (hX.out.below (Below.refl _ _).drew hX.out.lt)
        go_wp2
        exact ⟨⟨m + 1, by go_num, by omega, hBd, hXd, hF⟩, by simp [intOf]; omega⟩
       have hb1 : (p.ns[n].role == 2) = true := by simp [h1]
       by_cases h2 : p.ns[m].role = 2
       case neg =>
        have hF := hidP (show p.ns[n].role = 2 -> cnt (p.ns.take (m + 1)) p.ns[n].te = 0 from fun h => by rw [hT.out, if_neg (fun e => h2 e.1), hK.out h])
        have hb2 : (p.ns[m].role == 2) = false := by simp [h2]
        clear h1
        refine ztk [0,1,2,3,4,5,6,7,8,9,10,11,12,13,14,15,16] ?_; repeat (refine ztn (hS := hH) (h := ?_); try simp only [zX,zY])
        refine zte ?_
        refine ztk [17,18,19,20,21,22,23,24,25,26,27,28,29,30,31] ?_; repeat (refine ztu (hS := hH) (h := ?_); try simp only [zX,zY])
        refine zte ?_
        refine ztk [32] ?_; repeat (refine ztn (hS := hH) (h := ?_); try simp only [zX,zY])
        refine zte ?_
        refine zdn ?_
        have hBd := hidP hB.out.drew
        have hXd := hidP (hX.out.below (Below.refl _ _).drew hX.out.lt)
        go_wp2
        exact ⟨⟨m + 1, by go_num, by omega, hBd, hXd, hF⟩, by simp [intOf]; omega⟩
       have hb2 : (p.ns[m].role == 2) = true := by simp [h2]
       by_cases h3 : p.ns[n].te = p.ns[m].te
       case neg =>
        have hF := hidP (show p.ns[n].role = 2 -> cnt (p.ns.take (m + 1)) p.ns[n].te = 0 from fun h => by rw [hT.out, if_neg (fun e => h3 e.2.symm), hK.out h])
        have hb3 : (p.ns[n].te == p.ns[m].te) = false := by simp [h3]
        clear h1 h2
        refine ztk [0,1,2,3,4,5,6,7,8,9,10,11,12,13,14,15,16,17,18,19,20,21,22,23,24,25,26,27,28,29,30,31,32] ?_; repeat (refine ztn (hS := hH) (h := ?_); try simp only [zX,zY])
        refine zte ?_
        refine zdn ?_
        have hBd := hidP hB.out.drew
        have hXd := hidP (hX.out.below (Below.refl _ _).drew hX.out.lt)
        go_wp2
        exact ⟨⟨m + 1, by go_num, by omega, hBd, hXd, hF⟩, by simp [intOf]; omega⟩
       . have hF := hidP (show lb = false by rw [HL.out]; exact hcl.out h1 h2 h3)
         have hb3 : (p.ns[n].te == p.ns[m].te) = true := by simp [h3]
         clear h1 h2 h3
         refine ztk [0,1,2,3,4,5,6,7,8,9,10,11,12,13,14,15,16,17,18,19,20,21,22,23,24,25,26,27,28,29,30,31,32] ?_; repeat (refine ztn (hS := hH) (h := ?_); try simp only [zX,zY])
         refine zte ?_
         refine zdn ?_
         have hBd := hidP hB.out.drew
         go_wp2
         go_ret
         exact ⟨by rw [hF.out]; rfl, hBd.out⟩
     . have hmn : ¬ (m : Int) < (n : Int) := by omega
       have hT := hidP (show ∀ t, cnt (p.ns.take (n + 1)) t <= 1 from fun t => by
        have a := Qb3 p.ns n hlt t
        have b := hD.out t
        have e : m = n := by omega
        have c := hK.out
        rw [e] at c
        by_cases h1 : p.ns[n].role = 2 /\ p.ns[n].te = t
        . have d := c h1.1
          rw [h1.2] at d
          rw [if_pos h1] at a
          omega
        . rw [if_neg h1] at a
          omega)
       go_wp2
       exact ⟨⟨n + 1, by go_num, by omega, hB, hX, hT⟩, by simp [intOf]; omega⟩
  . have hF := hidP (show lb = true by
     rw [HL.out]
     refine Qdg fun t => ?_
     have := hD.out t
     rwa [List.take_of_length_le (by omega)] at this)
    have hge : ¬ (n : Int) < p.size := by omega
    go_wp2
    go_ret
    exact ⟨by rw [hF.out]; rfl, hB.out⟩
end Go.Proofs.YtbcbdhjeebcleaaGreatDoor.Gen
