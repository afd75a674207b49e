/-
  FnDisks: at every code what was sure of a drawn disk is there when it falls, and so much behind it as it keeps; what is appended is behind all. No condition.
-/
import Derived.Test.YtlniljigeemnoaaGreatDk5
set_option linter.unusedVariables false
set_option linter.unusedSimpArgs false
set_option maxRecDepth 100000
set_option maxHeartbeats 8000000
namespace Go.Proofs.YtlniljigeemnoaaGreat.DisksLaw
open ChangeShapes WideShapes ChangeAt RowKit Joins Deep Base Gen
theorem Qc6 (a : Option Addr) (c : Nat) (L : List UInt8) (W : World) (h : At W a L) : (convert 22 9 (.slice a L.length c)).run Tryz.prog W = .ok (.string ⟨L.toArray⟩) W := conv_bytes h
theorem own : ownKnob Tryz.prog.godebug = none := by kernel_rfl
theorem laidOut : laidOutB Tryz.prog = true := by kernel_rfl
theorem Qe1 {n : Nat} {a b : World} (h : Below n a b) : Below n a b.drew := h.drew
theorem bigD_any (A : Option Addr) (n cap : Nat) (hn : n <= 9223372036854775807) (w : World) :
 Calls Tryz.prog 4 #[.slice A n cap] w fun e w' => e = .returned (.bool (decide ((1048576 : Int) < (n : Int)))) /\ w' = w := by
 go_enter Tryz.func4, Tryz.ntmps4
 go_wp2
 go_ret
 exact ⟨rfl, rfl⟩
def Ds (W : World) (B : Nat) (a : Option Addr) (c : Nat) (l : List UInt8) (su : Int) : Prop := Blk W B 25 #[.slice a l.length c, .int .i64 su] /\ At W a l
theorem Ds.new (W : World) (a : Option Addr) (c : Nat) (l : List UInt8) (su : Int) (h : At W a l) : Ds (W.alloc (.cells #[.slice a l.length c, .int .i64 su] 25)) W.heap.size a c l su :=
 ⟨Blk.new W 25 _, h.below (Qaf (Below.refl _ _) _)⟩
theorem Ds.below {W W' : World} {B : Nat} {a : Option Addr} {c : Nat} {l : List UInt8} {su : Int} (h : Ds W B a c l su) (g : Below W.heap.size W W') : Ds W' B a c l su := ⟨h.1.below g h.1.lt, h.2.below g⟩
theorem fld1 (a : Option Addr) (n c : Nat) (s : Int) (W : World) : (Instr.field 25 (.agg #[.slice a n c, .int .i64 s]) 1).run Tryz.prog W = .ok (.int .i64 s) W := by
 have u3 := Tryz.underlying3
 simp [Instr.field, run_underlying Tryz.underlying25, part, asAgg, sizeOf, typeInfo]
theorem fld0 (a : Option Addr) (n c : Nat) (s : Int) (W : World) : (Instr.field 25 (.agg #[.slice a n c, .int .i64 s]) 0).run Tryz.prog W = .ok (.slice a n c) W := by
 have u3 := Tryz.underlying22
 simp [Instr.field, run_underlying Tryz.underlying25, part, asAgg, sizeOf, typeInfo]
theorem mk_app (a b : List UInt8) : ByteArray.mk (a ++ b).toArray = ByteArray.mk a.toArray ++ ByteArray.mk b.toArray := by
 apply ByteArray.ext
 simp [ByteArray.data_append]
theorem fall_len (su : Int) (l : List UInt8) (k : Int) : (Qdy su l k).length <= l.length := by
 unfold Qdy; split<;>simp<;>omega
theorem app_len (su : Int) (l b : List UInt8) : (appL su l b).length <= l.length + b.length := by
 unfold appL; split<;>simp<;>omega
theorem fall_all {su : Int} {l : List UInt8} (h : Qbl su l.length = true) : Qdy (Qeu su l.length) l 0 = l := by
 have h1 := Qdj h
 unfold Qeu
 rw [if_pos h]
 unfold Qdy
 split
 . have : Qcr (l.length : Int) l.length 0 = l.length := by unfold Qcr Qdx; omega
   rw [this, List.take_length]
 . rfl
theorem law_any (A : Option Addr) (cap : Nat) (l : List By) (hl : l.length <= 9223372036854775807) (hby : ∀ x ∈ l, x.right) (w : World) (hA : At w A l) :
 Calls Tryz.prog 3 #[.slice A l.length cap] w fun e w' => e = .returned (.bool true) /\ Below w.heap.size w w' := by
 have HA := hidP hA
 have Hby := hidP hby
 clear hA hby
 by_cases hbig : (1048576 : Int) < (l.length : Int)
 . have hd : decide ((1048576 : Int) < (l.length : Int)) = true := decide_eq_true hbig
   go_enter Tryz.func3, Tryz.ntmps3
   go_wp2_with (go_at_call 4; refine (bigD_any A l.length cap hl _).mono ?_; rw [hd]; rintro e w1 ⟨rfl, rfl⟩)
   go_ret
   exact ⟨rfl, Below.refl _ _⟩
 have hd : decide ((1048576 : Int) < (l.length : Int)) = false := decide_eq_false hbig
 have hl1 : l.length <= 1048576 := by omega
 go_enter Tryz.func3, Tryz.ntmps3
 go_wp2_with fail
 refine (bigD_any A l.length cap hl _).mono ?_
 rw [hd]
 rintro e w0 ⟨rfl, rfl⟩
 clear hd
 have HB := hidP (Below.refl w0.heap.size w0)
 go_wp2_with fail
 refine (Qh3 A cap l hl1 Hby.out _ HA.out).mono ?_
 rintro e w1 ⟨a0, c0, L0, u0, k, rfl, ⟨n0, ⟨n01, n02⟩, n03⟩, hk, v0, g1⟩
 replace HA := hidP (HA.out.below g1)
 replace HB := hidP (via0 g1 HB.out)
 have al := Qaf (Below.refl _ w1) (.cells #[.slice a0 (L0).length c0, .int .i64 (u0)] 25)
 have HD := hidP (Ds.new w1 a0 c0 L0 u0 v0.at)
 replace HA := hidP (HA.out.below al)
 replace HB := hidP (via0 al HB.out)
 clear al g1
 clear v0
 go_wp2_with fail
 refine (Qdi u0 k a0 c0 L0 (by omega) _ HD.out.2).mono ?_
 rintro e w2 ⟨v, rfl, ⟨a1, c1, F1, rfl, n11, n12, s1, -⟩, g2⟩
 generalize w1.heap.size = bD at *
 have hfl := fall_len u0 L0 k
 have hF1 : Hid (Qbl u0 L0.length = true -> Qdy u0 L0 k = L0.take (Qcr u0 L0.length k) /\ Qgu u0 L0.length k = (Qcr u0 L0.length k : Int) /\ u0 <= (Qcr u0 L0.length k : Int) /\ Qcr u0 L0.length k <= L0.length) := hidP (fun h => by
  obtain ⟨q0, q1, q2, q3⟩ := Qfg h k
  exact ⟨by unfold Qdy; rw [if_pos h], by unfold Qgu; rw [if_pos h], by omega, q3⟩)
 have hF2 : Hid (Qbl u0 L0.length = false -> Qdy u0 L0 k = L0) := hidP (fun h => by unfold Qdy; rw [if_neg (by rw [h]; simp)])
 have HFs := hidP (fun W h => Qg7 u0 k a0 c0 L0 (by omega) ⟨n01, n02⟩ W h)
 generalize Qdy u0 L0 k = F0 at *
 generalize Qgu u0 L0.length k = f0 at *
 replace HA := hidP (HA.out.below g2)
 replace HD := hidP (HD.out.below g2)
 replace HB := hidP (via0 g2 HB.out)
 have al := Qaf (Below.refl _ w2) (.cells #[.slice a1 (F0).length c1, .int .i64 (f0)] 25)
 have HF := hidP (Ds.new w2 a1 c1 F0 f0 s1.at)
 replace HA := hidP (HA.out.below al)
 replace HD := hidP (HD.out.below al)
 replace HB := hidP (via0 al HB.out)
 clear al g2
 clear s1
 have cd0 := HD.out.1.cell (i := 0) rfl
 have cd1 := HD.out.1.cell (i := 1) rfl
 go_wp2_with fail
 refine (HFs.out _ HD.out.2).mono ?_
 rintro e w3 ⟨v, rfl, ⟨a2, c2, F2, rfl, n21, n22, s2, -⟩, g3⟩
 generalize w2.heap.size = bF at *
 clear HFs cd0 cd1
 replace HA := hidP (HA.out.below g3)
 replace HD := hidP (HD.out.below g3)
 replace HF := hidP (HF.out.below g3)
 replace HB := hidP (via0 g3 HB.out)
 have al := Qaf (Below.refl _ w3) (.cells #[.slice a2 (F0).length c2, .int .i64 (f0)] 25)
 have HG := hidP (Ds.new w3 a2 c2 F0 f0 s2.at)
 replace HA := hidP (HA.out.below al)
 replace HD := hidP (HD.out.below al)
 replace HF := hidP (HF.out.below al)
 replace HB := hidP (via0 al HB.out)
 clear al g3
 clear s2
 go_wp2_with fail
 refine (Qf7 A cap l hl1 Hby.out _ HA.out).mono ?_
 rintro e w4 ⟨a3, c3, L3, u3, a4, c4, M, rfl, ⟨n3, ⟨n31, n32⟩, n33⟩, ⟨n4, n41, n42⟩, v3, v4, g4⟩
 generalize w3.heap.size = bG at *
 replace HA := hidP (HA.out.below g4)
 replace HD := hidP (HD.out.below g4)
 replace HF := hidP (HF.out.below g4)
 replace HG := hidP (HG.out.below g4)
 replace HB := hidP (via0 g4 HB.out)
 have al := Qaf (Below.refl _ w4) (.cells #[.slice a3 (L3).length c3, .int .i64 (u3)] 25)
 have HE := hidP (Ds.new w4 a3 c3 L3 u3 v3.at)
 replace HA := hidP (HA.out.below al)
 replace HD := hidP (HD.out.below al)
 replace HF := hidP (HF.out.below al)
 replace HG := hidP (HG.out.below al)
 replace HB := hidP (via0 al HB.out)
 clear al g4
 have HM := hidP (v4.at.below (Qaf (Below.refl _ w4) (.cells #[.slice a3 L3.length c3, .int .i64 u3] 25)))
 clear v3 v4
 go_wp2_with fail
 refine (Qf5 u3 a3 a4 c3 c4 L3 M (by omega) (by omega) _ HE.out.2 HM.out).mono ?_
 rintro e w5 ⟨v, rfl, ⟨a5, c5, F5, rfl, n51, n52, s5, -⟩, g5⟩
 generalize w4.heap.size = bE at *
 have hal := app_len u3 L3 M
 have hP1 : Hid (okA u3 L3.length M.length = true -> appL u3 L3 M = L3 ++ M) := hidP (fun h => by unfold appL; rw [if_pos h])
 have HPs := hidP (fun W h h2 => Qf2 u3 a3 a4 c3 c4 L3 M (by omega) (by omega) W h h2)
 generalize appL u3 L3 M = P0 at *
 generalize okA u3 L3.length M.length = ok at *
 replace HA := hidP (HA.out.below g5)
 replace HD := hidP (HD.out.below g5)
 replace HF := hidP (HF.out.below g5)
 replace HG := hidP (HG.out.below g5)
 replace HE := hidP (HE.out.below g5)
 replace HM := hidP (HM.out.below g5)
 replace HB := hidP (via0 g5 HB.out)
 have al := Qaf (Below.refl _ w5) (.cells #[.slice a5 (P0).length c5, .int .i64 (u3)] 25)
 have HP := hidP (Ds.new w5 a5 c5 P0 u3 s5.at)
 replace HA := hidP (HA.out.below al)
 replace HD := hidP (HD.out.below al)
 replace HF := hidP (HF.out.below al)
 replace HG := hidP (HG.out.below al)
 replace HE := hidP (HE.out.below al)
 replace HM := hidP (HM.out.below al)
 replace HB := hidP (via0 al HB.out)
 clear al g5
 clear s5
 have ce0 := HE.out.1.cell (i := 0) rfl
 have ce1 := HE.out.1.cell (i := 1) rfl
 go_wp2_with fail
 refine (HPs.out _ HE.out.2 HM.out).mono ?_
 rintro e w6 ⟨v, rfl, ⟨a6, c6, F6, rfl, n61, n62, s6, -⟩, g6⟩
 generalize w5.heap.size = bP at *
 clear HPs ce0 ce1
 replace HA := hidP (HA.out.below g6)
 replace HD := hidP (HD.out.below g6)
 replace HF := hidP (HF.out.below g6)
 replace HG := hidP (HG.out.below g6)
 replace HE := hidP (HE.out.below g6)
 replace HM := hidP (HM.out.below g6)
 replace HP := hidP (HP.out.below g6)
 replace HB := hidP (via0 g6 HB.out)
 have al := Qaf (Below.refl _ w6) (.cells #[.slice a6 (P0).length c6, .int .i64 (u3)] 25)
 have HQ := hidP (Ds.new w6 a6 c6 P0 u3 s6.at)
 replace HA := hidP (HA.out.below al)
 replace HD := hidP (HD.out.below al)
 replace HF := hidP (HF.out.below al)
 replace HG := hidP (HG.out.below al)
 replace HE := hidP (HE.out.below al)
 replace HM := hidP (HM.out.below al)
 replace HP := hidP (HP.out.below al)
 replace HB := hidP (via0 al HB.out)
 clear al g6
 clear s6
 go_wp2_with fail
 refine (Qh0 A cap l hl1 Hby.out _ HA.out).mono ?_
 rintro e w7 ⟨a7, c7, L7, u7, rfl, ⟨n7, ⟨n71, n72⟩, n73⟩, v7, g7⟩
 replace HA := hidP (HA.out.below g7)
 replace HD := hidP (HD.out.below g7)
 replace HF := hidP (HF.out.below g7)
 replace HG := hidP (HG.out.below g7)
 replace HE := hidP (HE.out.below g7)
 replace HM := hidP (HM.out.below g7)
 replace HP := hidP (HP.out.below g7)
 replace HQ := hidP (HQ.out.below g7)
 replace HB := hidP (via0 g7 HB.out)
 have al := Qaf (Below.refl _ w7) (.cells #[.slice a7 (L7).length c7, .int .i64 (u7)] 25)
 have HS := hidP (Ds.new w7 a7 c7 L7 u7 v7.at)
 replace HA := hidP (HA.out.below al)
 replace HD := hidP (HD.out.below al)
 replace HF := hidP (HF.out.below al)
 replace HG := hidP (HG.out.below al)
 replace HE := hidP (HE.out.below al)
 replace HM := hidP (HM.out.below al)
 replace HP := hidP (HP.out.below al)
 replace HQ := hidP (HQ.out.below al)
 replace HB := hidP (via0 al HB.out)
 clear al g7
 clear v7 HQ
 go_wp2_with fail
 refine (Qe5 u7 a7 c7 L7 (by omega) _ HS.out.2).mono ?_
 rintro e w8 ⟨v, rfl, ⟨a8, c8, F8, rfl, n81, n82, s8, -⟩, g8⟩
 generalize w7.heap.size = bS at *
 have HSs := hidP (fun W h => Qg2 u7 a7 c7 L7 (by omega) W h)
 generalize Qeu u7 L7.length = t0 at *
 replace HA := hidP (HA.out.below g8)
 replace HD := hidP (HD.out.below g8)
 replace HF := hidP (HF.out.below g8)
 replace HG := hidP (HG.out.below g8)
 replace HE := hidP (HE.out.below g8)
 replace HM := hidP (HM.out.below g8)
 replace HP := hidP (HP.out.below g8)
 replace HS := hidP (HS.out.below g8)
 replace HB := hidP (via0 g8 HB.out)
 have al := Qaf (Below.refl _ w8) (.cells #[.slice a8 (L7).length c8, .int .i64 (t0)] 25)
 have HT := hidP (Ds.new w8 a8 c8 L7 t0 s8.at)
 replace HA := hidP (HA.out.below al)
 replace HD := hidP (HD.out.below al)
 replace HF := hidP (HF.out.below al)
 replace HG := hidP (HG.out.below al)
 replace HE := hidP (HE.out.below al)
 replace HM := hidP (HM.out.below al)
 replace HP := hidP (HP.out.below al)
 replace HS := hidP (HS.out.below al)
 replace HB := hidP (via0 al HB.out)
 clear al g8
 clear s8
 go_wp2_with fail
 refine (Qf6 A cap l hl1 Hby.out _ HA.out).mono ?_
 rintro e w9 ⟨a9, c9, L9, u9, rfl, ⟨n9, ⟨n91, n92⟩, n93⟩, v9, g9⟩
 generalize w8.heap.size = bT at *
 replace HA := hidP (HA.out.below g9)
 replace HD := hidP (HD.out.below g9)
 replace HF := hidP (HF.out.below g9)
 replace HG := hidP (HG.out.below g9)
 replace HE := hidP (HE.out.below g9)
 replace HM := hidP (HM.out.below g9)
 replace HP := hidP (HP.out.below g9)
 replace HS := hidP (HS.out.below g9)
 replace HT := hidP (HT.out.below g9)
 replace HB := hidP (via0 g9 HB.out)
 have al := Qaf (Below.refl _ w9) (.cells #[.slice a9 (L9).length c9, .int .i64 (u9)] 25)
 have HX := hidP (Ds.new w9 a9 c9 L9 u9 v9.at)
 replace HA := hidP (HA.out.below al)
 replace HD := hidP (HD.out.below al)
 replace HF := hidP (HF.out.below al)
 replace HG := hidP (HG.out.below al)
 replace HE := hidP (HE.out.below al)
 replace HM := hidP (HM.out.below al)
 replace HP := hidP (HP.out.below al)
 replace HS := hidP (HS.out.below al)
 replace HT := hidP (HT.out.below al)
 replace HB := hidP (via0 al HB.out)
 clear al g9
 clear v9 HA
 have HDi := hidP (fun W => Qb1 u9 a9 L9.length c9 (by omega) W)
 have HDs := hidP (fun W => Qcm u9 a9 L9.length c9 (by omega) W)
 generalize Qbl u9 L9.length = x9 at *
 go_wp2_with fail
 generalize w9.heap.size = bX at *
 generalize w9.alloc (.cells #[.slice a9 L9.length c9, .int .i64 u9] 25) = W12 at *
 have HcF : Hid (∀ W, Below W12.heap.size W12 W -> (convert 22 9 (.slice a1 F0.length c1)).run Tryz.prog W = .ok (.string ⟨F0.toArray⟩) W) := hidP (fun W h => Qc6 a1 c1 F0 W (HF.out.2.below h))
 have HcG : Hid (∀ W, Below W12.heap.size W12 W -> (convert 22 9 (.slice a2 F0.length c2)).run Tryz.prog W = .ok (.string ⟨F0.toArray⟩) W) := hidP (fun W h => Qc6 a2 c2 F0 W (HG.out.2.below h))
 have HSy : Hid (∀ W, Below W12.heap.size W12 W -> Calls Tryz.prog 14 #[.agg #[.slice a7 L7.length c7, .int .i64 u7]] W fun e w' => ∃ v, e = .returned (.agg #[v, .int .i64 t0]) /\ NewB W.heap.size w' v L7 /\ Below W.heap.size W w') := hidP (fun W h => HSs.out W (HS.out.2.below h))
 clear HSs
 have SS : ∀ W, Below W12.heap.size W12 W -> (fun W => Below W12.heap.size W12 W /\ W.cell? ⟨bF, 0, none⟩ = some (.slice a1 F0.length c1) /\ W.cell? ⟨bF, 1, none⟩ = some (.int .i64 f0) /\ W.cell? ⟨bG, 0, none⟩ = some (.slice a2 F0.length c2) /\ W.cell? ⟨bG, 1, none⟩ = some (.int .i64 f0) /\ W.cell? ⟨bS, 0, none⟩ = some (.slice a7 L7.length c7) /\ W.cell? ⟨bS, 1, none⟩ = some (.int .i64 u7) /\ W.cell? ⟨bT, 0, none⟩ = some (.slice a8 L7.length c8) /\ W.cell? ⟨bT, 1, none⟩ = some (.int .i64 t0) /\ W.cell? ⟨bX, 0, none⟩ = some (.slice a9 L9.length c9) /\ W.cell? ⟨bX, 1, none⟩ = some (.int .i64 u9)) W := fun W h => ⟨h, (HF.out.below h).1.cell (i := 0) rfl, (HF.out.below h).1.cell (i := 1) rfl, (HG.out.below h).1.cell (i := 0) rfl, (HG.out.below h).1.cell (i := 1) rfl, (HS.out.below h).1.cell (i := 0) rfl, (HS.out.below h).1.cell (i := 1) rfl, (HT.out.below h).1.cell (i := 0) rfl, (HT.out.below h).1.cell (i := 1) rfl, (HX.out.below h).1.cell (i := 0) rfl, (HX.out.below h).1.cell (i := 1) rfl⟩
 refine wp_region_noPanic ?_
 refine wp_region_held_drew (S := (fun W => Below W12.heap.size W12 W /\ W.cell? ⟨bF, 0, none⟩ = some (.slice a1 F0.length c1) /\ W.cell? ⟨bF, 1, none⟩ = some (.int .i64 f0) /\ W.cell? ⟨bG, 0, none⟩ = some (.slice a2 F0.length c2) /\ W.cell? ⟨bG, 1, none⟩ = some (.int .i64 f0) /\ W.cell? ⟨bS, 0, none⟩ = some (.slice a7 L7.length c7) /\ W.cell? ⟨bS, 1, none⟩ = some (.int .i64 u7) /\ W.cell? ⟨bT, 0, none⟩ = some (.slice a8 L7.length c8) /\ W.cell? ⟨bT, 1, none⟩ = some (.int .i64 t0) /\ W.cell? ⟨bX, 0, none⟩ = some (.slice a9 L9.length c9) /\ W.cell? ⟨bX, 1, none⟩ = some (.int .i64 u9))) (by kernel_rfl) ?_ (fun hH => ?_)
 . exact SS _ (Qe1 (Below.refl _ _))
 refine ztk [0,1] ?_; repeat (refine ztn (h := ?_); try simp only [zX,zY])
 refine zte ?_
 refine' wpAnyH_take (i := 2) (v := _) rfl (by kernel_rfl) (by kernel_rfl) (by kernel_rfl) (fun _ _ _ h => h) (Or.inl ⟨by rfl, ?hy3⟩) (by assumption) ?rest3
 case hy3 => (intro w hSw; (try dsimp only at hSw); go_simp<;>(rw [HcF.out _ hSw.1, Result.andThen_ok]<;>with_reducible rfl))
 try simp only [zX,zY]
 refine ztk [3,4] ?_; repeat (refine ztn (h := ?_); try simp only [zX,zY])
 refine zte ?_
 refine' wpAnyH_take (i := 5) (v := _) rfl (by kernel_rfl) (by kernel_rfl) (by kernel_rfl) (fun _ _ _ h => h) (Or.inl ⟨by rfl, ?hy6⟩) (by assumption) ?rest6
 case hy6 => (intro w hSw; (try dsimp only at hSw); go_simp<;>(rw [HcG.out _ hSw.1, Result.andThen_ok]<;>with_reducible rfl))
 try simp only [zX,zY]
 refine ztk [6,7,8,9,10,11,12,13,14,15,16,17,18,19,20,21,22] ?_; repeat (refine ztn (h := ?_); try simp only [zX,zY])
 refine zte ?_
 refine zR1 23 (fun K hK => ?_)
 simp only [zG]
 go_simp
 refine (HSy.out _ hH.1).mono ?_; rintro e w13 ⟨v, rfl, ⟨a10, c10, F10, rfl, -, -, -, -⟩, g13⟩
 refine hK.out _ _ (SS _ (via0 g13 hH.1)) fun hH => ?_; clear hK K; try simp only [zX,zY]
 refine' wpAnyH_take (i := 24) (v := _) rfl (by kernel_rfl) (by kernel_rfl) (by kernel_rfl) (fun _ _ _ h => h) (Or.inl ⟨by rfl, ?hy24⟩) (by assumption) ?rest24
 case hy24 => (intro w hSw; (try dsimp only at hSw); go_simp<;>(rw [fld1, Result.andThen_ok]<;>with_reducible rfl))
 try simp only [zX,zY]
 refine ztk [25,26,27,28,30] ?_; repeat (refine ztn (h := ?_); try simp only [zX,zY])
 refine zte ?_
 refine zR1 29 (fun K hK => ?_)
 simp only [zG]
 go_simp
 refine (HDi.out _).mono ?_; rintro e w14 ⟨rfl, g14⟩
 refine hK.out _ _ (SS _ (via0 g14 hH.1)) fun hH => ?_; clear hK K; try simp only [zX,zY]
 refine zR1 31 (fun K hK => ?_)
 simp only [zG]
 go_simp
 refine (HDs.out _).mono ?_; rintro e w15 ⟨rfl, g15⟩
 refine hK.out _ _ (SS _ (via0 g15 hH.1)) fun hH => ?_; clear hK K; try simp only [zX,zY]
 refine ztk [32,33] ?_; repeat (refine ztn (h := ?_); try simp only [zX,zY])
 refine zte ?_
 refine zdn ?_
 have g12 := hH.1
 clear hH SS HSy HDi HDs HcF HcG HG HT HS HX g13 g14 g15
 replace HB := hidP (via0 g12 HB.out)
 replace HD := hidP (HD.out.below g12)
 replace HF := hidP (HF.out.below g12)
 replace HE := hidP (HE.out.below g12)
 replace HP := hidP (HP.out.below g12)
 replace HM := hidP (HM.out.below g12)
 clear g12
 have HDk := hidP (fun W => Qb1 u0 a0 L0.length c0 (by omega) W)
 have HSy := hidP (fun W h => Qe5 u0 a0 c0 L0 (by omega) W h)
 have hF0 : Hid (Qbl u0 L0.length = true -> Qdy (Qeu u0 L0.length) L0 0 = L0) := hidP (fun h => fall_all h)
 have hcP := Qc6 a5 c5 P0 _ HP.out.2
 have hcE := Qc6 a3 c3 L3 _ HE.out.2
 have hcM := Qc6 a4 c4 M _ HM.out
 have hz : (ByteArray.mk L3.toArray).size + (ByteArray.mk M.toArray).size <= 260000 := by simp [ByteArray.size]; omega
 replace hP1 : Hid (ok = true -> ByteArray.mk P0.toArray = ByteArray.mk L3.toArray ++ ByteArray.mk M.toArray) := hidP (fun h => by rw [hP1.out h]; exact mk_app _ _)
 generalize ByteArray.mk P0.toArray = bp at *
 generalize ByteArray.mk L3.toArray = be at *
 generalize ByteArray.mk M.toArray = bm at *
 have hz1 : be.size + bm.size <= 9223372036854775807 := by omega
 have hz2 : ¬ ((9223372036854775807 : Int) < (be.size : Int) + (bm.size : Int)) := by omega
 have cd0 := HD.out.1.cell (i := 0) rfl
 have cd1 := HD.out.1.cell (i := 1) rfl
 have cp0 := HP.out.1.cell (i := 0) rfl
 have cp1 := HP.out.1.cell (i := 1) rfl
 have ce0 := HE.out.1.cell (i := 0) rfl
 have ce1 := HE.out.1.cell (i := 1) rfl
 cases ok with
 | false =>
  go_wp2_with fail
  refine (HDk.out _).mono ?_
  generalize hd0 : Qbl u0 L0.length = q at *
  rintro e w16 ⟨rfl, g16⟩
  clear cd0 cd1 cp0 cp1 ce0 ce1 hcP hcE hcM HP HE HM hP1
  replace HB := hidP (via0 g16 HB.out)
  replace HD := hidP (HD.out.below g16)
  replace HF := hidP (HF.out.below g16)
  clear g16 HDk
  have cd0 := HD.out.1.cell (i := 0) rfl
  have cd1 := HD.out.1.cell (i := 1) rfl
  have cf0 := HF.out.1.cell (i := 0) rfl
  have cf1 := HF.out.1.cell (i := 1) rfl
  cases q with
  | false =>
   obtain rfl := hF2.out rfl
   go_wp2
   go_ret
   exact ⟨rfl, HB.out⟩
  | true =>
   obtain ⟨hF, hf, hu, hn⟩ := hF1.out rfl
   have hlen : F0.length = Qcr u0 L0.length k := by rw [hF, List.length_take]; omega
   rw [← hlen] at hF hf hu hn
   obtain rfl := hf
   replace hF0 := hidP (hF0.out rfl)
   replace hF := hidP hF
   clear hF1 hF2 hlen
   go_wp2_with fail
   clear cd0 cd1 cf0 cf1
   generalize w16 = W18 at *
   have HcF : Hid (∀ W, Below W18.heap.size W18 W -> (convert 22 9 (.slice a1 F0.length c1)).run Tryz.prog W = .ok (.string ⟨F0.toArray⟩) W) := hidP (fun W h => Qc6 a1 c1 F0 W (HF.out.2.below h))
   have HcD : Hid (∀ W, Below W18.heap.size W18 W -> (convert 22 9 (.slice a0 L0.length c0)).run Tryz.prog W = .ok (.string ⟨L0.toArray⟩) W) := hidP (fun W h => Qc6 a0 c0 L0 W (HD.out.2.below h))
   have hfc : F0.length <= c0 := by omega
   have HcV : Hid (∀ W, Below W18.heap.size W18 W -> (convert 22 9 (.slice a0 F0.length c0)).run Tryz.prog W = .ok (.string ⟨F0.toArray⟩) W) := hidP (fun W h => by
    have q := Qc6 a0 c0 (L0.take F0.length) W ((HD.out.2.below h).take8 _)
    rw [← hF.out] at q
    exact q)
   replace HSy : Hid (∀ W, Below W18.heap.size W18 W -> Calls Tryz.prog 12 #[.agg #[.slice a0 L0.length c0, .int .i64 u0]] W fun e w' => ∃ v, e = .returned (.agg #[v, .int .i64 (Qeu u0 L0.length)]) /\ NewB W.heap.size w' v L0 /\ Below W.heap.size W w') := hidP (fun W h => HSy.out W (HD.out.2.below h))
   have SS : ∀ W, Below W18.heap.size W18 W -> (fun W => Below W18.heap.size W18 W /\ W.cell? ⟨bD, 0, none⟩ = some (.slice a0 L0.length c0) /\ W.cell? ⟨bD, 1, none⟩ = some (.int .i64 u0) /\ W.cell? ⟨bF, 0, none⟩ = some (.slice a1 F0.length c1) /\ W.cell? ⟨bF, 1, none⟩ = some (.int .i64 (F0.length : Int))) W := fun W h => ⟨h, (HD.out.below h).1.cell (i := 0) rfl, (HD.out.below h).1.cell (i := 1) rfl, (HF.out.below h).1.cell (i := 0) rfl, (HF.out.below h).1.cell (i := 1) rfl⟩
   clear hF
   refine wp_region_noPanic ?_
   refine wp_region_held_drew (S := (fun W => Below W18.heap.size W18 W /\ W.cell? ⟨bD, 0, none⟩ = some (.slice a0 L0.length c0) /\ W.cell? ⟨bD, 1, none⟩ = some (.int .i64 u0) /\ W.cell? ⟨bF, 0, none⟩ = some (.slice a1 F0.length c1) /\ W.cell? ⟨bF, 1, none⟩ = some (.int .i64 (F0.length : Int)))) (by kernel_rfl) ?_ (fun hH => ?_)
   . exact SS _ (Qe1 (Below.refl _ _))
   refine ztk [0,1,2,3,4,5,6,7,8,9,10,11,12,13,14,15,16] ?_; repeat (refine ztn (h := ?_); try simp only [zX,zY])
   refine zte ?_
   refine' wpAnyH_take (i := 17) (v := _) rfl (by kernel_rfl) (by kernel_rfl) (by kernel_rfl) (fun _ _ _ h => h) (Or.inl ⟨by rfl, ?hy49⟩) (by assumption) ?rest49
   case hy49 => (intro w hSw; (try dsimp only at hSw); go_simp<;>(rw [HcF.out _ hSw.1, Result.andThen_ok]<;>with_reducible rfl))
   try simp only [zX,zY]
   refine ztk [18,19,20,21,22,23] ?_; repeat (refine ztn (h := ?_); try simp only [zX,zY])
   refine zte ?_
   refine' wpAnyH_take (i := 24) (v := _) rfl (by kernel_rfl) (by kernel_rfl) (by kernel_rfl) (fun _ _ _ h => h) (Or.inl ⟨by rfl, ?hy56⟩) (by assumption) ?rest56
   case hy56 => (intro w hSw; (try dsimp only at hSw); go_simp<;>(rw [HcV.out _ hSw.1, Result.andThen_ok]<;>with_reducible rfl))
   try simp only [zX,zY]
   refine ztk [25,26,27,28,33,34] ?_; repeat (refine ztn (h := ?_); try simp only [zX,zY])
   refine zte ?_
   refine' wpAnyH_take (i := 35) (v := _) rfl (by kernel_rfl) (by kernel_rfl) (by kernel_rfl) (fun _ _ _ h => h) (Or.inl ⟨by rfl, ?hy63⟩) (by assumption) ?rest63
   case hy63 => (intro w hSw; (try dsimp only at hSw); go_simp<;>(rw [HcD.out _ hSw.1, Result.andThen_ok]<;>with_reducible rfl))
   try simp only [zX,zY]
   refine zR1 29 (fun K hK => ?_)
   simp only [zG]
   go_simp
   refine (HSy.out _ hH.1).mono ?_; rintro e w13 ⟨v, rfl, ⟨a10, c10, F10, rfl, h101, h102, s10, -⟩, g13⟩
   refine hK.out _ _ (SS _ (via0 g13 hH.1)) fun hH => ?_; clear hK K; try simp only [zX,zY]
   refine zR1 30 (fun K hK => ?_)
   simp only [zG]
   go_simp
   refine (Qdi (Qeu u0 L0.length) 0 a10 c10 L0 (by omega) _ s10.at).mono ?_; rw [hF0.out]; rintro e w14 ⟨v, rfl, ⟨a11, c11, F11, rfl, h111, h112, s11, -⟩, g14⟩; have hcv := Qc6 a11 c11 L0 w14 s11.at
   refine hK.out _ _ (SS _ (via0 g14 hH.1)) fun hH => ?_; clear hK K; try simp only [zX,zY]
   refine' wpAnyH_take (i := 31) (v := _) rfl (by kernel_rfl) (by kernel_rfl) (by kernel_rfl) (fun _ _ _ h => h) (Or.inl ⟨by rfl, ?hy64⟩) (by assumption) ?rest64
   case hy64 => (intro w hSw; (try dsimp only at hSw); go_simp<;>(rw [fld0, Result.andThen_ok]<;>with_reducible rfl))
   try simp only [zX,zY]
   refine zR1 32 (fun K hK => ?_)
   simp only [zG]
   go_simp
   refine hK.out _ _ hH fun hH => ?_; clear hK K; try simp only [zX,zY]
   refine ztk [36,37,38] ?_; repeat (refine ztn (h := ?_); try simp only [zX,zY])
   refine zte ?_
   refine zdn ?_
   have HBz := hidP (via0 hH.1 HB.out)
   clear hH
   go_wp2
   go_ret
   exact ⟨rfl, HBz.out⟩
 | true =>
  obtain rfl := hP1.out rfl
  go_wp2_with fail
  refine (HDk.out _).mono ?_
  generalize hd0 : Qbl u0 L0.length = q at *
  rintro e w16 ⟨rfl, g16⟩
  clear cd0 cd1 cp0 cp1 ce0 ce1 hcP hcE hcM HP HE HM hP1
  replace HB := hidP (via0 g16 HB.out)
  replace HD := hidP (HD.out.below g16)
  replace HF := hidP (HF.out.below g16)
  clear g16 HDk
  have cd0 := HD.out.1.cell (i := 0) rfl
  have cd1 := HD.out.1.cell (i := 1) rfl
  have cf0 := HF.out.1.cell (i := 0) rfl
  have cf1 := HF.out.1.cell (i := 1) rfl
  cases q with
  | false =>
   obtain rfl := hF2.out rfl
   go_wp2
   go_ret
   exact ⟨rfl, HB.out⟩
  | true =>
   obtain ⟨hF, hf, hu, hn⟩ := hF1.out rfl
   have hlen : F0.length = Qcr u0 L0.length k := by rw [hF, List.length_take]; omega
   rw [← hlen] at hF hf hu hn
   obtain rfl := hf
   replace hF0 := hidP (hF0.out rfl)
   replace hF := hidP hF
   clear hF1 hF2 hlen
   go_wp2_with fail
   clear cd0 cd1 cf0 cf1
   generalize w16 = W18 at *
   have HcF : Hid (∀ W, Below W18.heap.size W18 W -> (convert 22 9 (.slice a1 F0.length c1)).run Tryz.prog W = .ok (.string ⟨F0.toArray⟩) W) := hidP (fun W h => Qc6 a1 c1 F0 W (HF.out.2.below h))
   have HcD : Hid (∀ W, Below W18.heap.size W18 W -> (convert 22 9 (.slice a0 L0.length c0)).run Tryz.prog W = .ok (.string ⟨L0.toArray⟩) W) := hidP (fun W h => Qc6 a0 c0 L0 W (HD.out.2.below h))
   have hfc : F0.length <= c0 := by omega
   have HcV : Hid (∀ W, Below W18.heap.size W18 W -> (convert 22 9 (.slice a0 F0.length c0)).run Tryz.prog W = .ok (.string ⟨F0.toArray⟩) W) := hidP (fun W h => by
    have q := Qc6 a0 c0 (L0.take F0.length) W ((HD.out.2.below h).take8 _)
    rw [← hF.out] at q
    exact q)
   replace HSy : Hid (∀ W, Below W18.heap.size W18 W -> Calls Tryz.prog 12 #[.agg #[.slice a0 L0.length c0, .int .i64 u0]] W fun e w' => ∃ v, e = .returned (.agg #[v, .int .i64 (Qeu u0 L0.length)]) /\ NewB W.heap.size w' v L0 /\ Below W.heap.size W w') := hidP (fun W h => HSy.out W (HD.out.2.below h))
   have SS : ∀ W, Below W18.heap.size W18 W -> (fun W => Below W18.heap.size W18 W /\ W.cell? ⟨bD, 0, none⟩ = some (.slice a0 L0.length c0) /\ W.cell? ⟨bD, 1, none⟩ = some (.int .i64 u0) /\ W.cell? ⟨bF, 0, none⟩ = some (.slice a1 F0.length c1) /\ W.cell? ⟨bF, 1, none⟩ = some (.int .i64 (F0.length : Int))) W := fun W h => ⟨h, (HD.out.below h).1.cell (i := 0) rfl, (HD.out.below h).1.cell (i := 1) rfl, (HF.out.below h).1.cell (i := 0) rfl, (HF.out.below h).1.cell (i := 1) rfl⟩
   clear hF
   refine wp_region_noPanic ?_
   refine wp_region_held_drew (S := (fun W => Below W18.heap.size W18 W /\ W.cell? ⟨bD, 0, none⟩ = some (.slice a0 L0.length c0) /\ W.cell? ⟨bD, 1, none⟩ = some (.int .i64 u0) /\ W.cell? ⟨bF, 0, none⟩ = some (.slice a1 F0.length c1) /\ W.cell? ⟨bF, 1, none⟩ = some (.int .i64 (F0.length : Int)))) (by kernel_rfl) ?_ (fun hH => ?_)
   . exact SS _ (Qe1 (Below.refl _ _))
   refine ztk [0,1,2,3,4,5,6,7,8,9,10,11,12,13,14,15,16] ?_; repeat (refine ztn (h := ?_); try simp only [zX,zY])
   refine zte ?_
   refine' wpAnyH_take (i := 17) (v := _) rfl (by kernel_rfl) (by kernel_rfl) (by kernel_rfl) (fun _ _ _ h => h) (Or.inl ⟨by rfl, ?hy85⟩) (by assumption) ?rest85
   case hy85 => (intro w hSw; (try dsimp only at hSw); go_simp<;>(rw [HcF.out _ hSw.1, Result.andThen_ok]<;>with_reducible rfl))
   try simp only [zX,zY]
   refine ztk [18,19,20,21,22,23] ?_; repeat (refine ztn (h := ?_); try simp only [zX,zY])
   refine zte ?_
   refine' wpAnyH_take (i := 24) (v := _) rfl (by kernel_rfl) (by kernel_rfl) (by kernel_rfl) (fun _ _ _ h => h) (Or.inl ⟨by rfl, ?hy92⟩) (by assumption) ?rest92
   case hy92 => (intro w hSw; (try dsimp only at hSw); go_simp<;>(rw [HcV.out _ hSw.1, Result.andThen_ok]<;>with_reducible rfl))
   try simp only [zX,zY]
   refine ztk [25,26,27,28,33,34] ?_; repeat (refine ztn (h := ?_); try simp only [zX,zY])
   refine zte ?_
   refine' wpAnyH_take (i := 35) (v := _) rfl (by kernel_rfl) (by kernel_rfl) (by kernel_rfl) (fun _ _ _ h => h) (Or.inl ⟨by rfl, ?hy99⟩) (by assumption) ?rest99
   case hy99 => (intro w hSw; (try dsimp only at hSw); go_simp<;>(rw [HcD.out _ hSw.1, Result.andThen_ok]<;>with_reducible rfl))
   try simp only [zX,zY]
   refine zR1 29 (fun K hK => ?_)
   simp only [zG]
   go_simp
   refine (HSy.out _ hH.1).mono ?_; rintro e w13 ⟨v, rfl, ⟨a10, c10, F10, rfl, h101, h102, s10, -⟩, g13⟩
   refine hK.out _ _ (SS _ (via0 g13 hH.1)) fun hH => ?_; clear hK K; try simp only [zX,zY]
   refine zR1 30 (fun K hK => ?_)
   simp only [zG]
   go_simp
   refine (Qdi (Qeu u0 L0.length) 0 a10 c10 L0 (by omega) _ s10.at).mono ?_; rw [hF0.out]; rintro e w14 ⟨v, rfl, ⟨a11, c11, F11, rfl, h111, h112, s11, -⟩, g14⟩; have hcv := Qc6 a11 c11 L0 w14 s11.at
   refine hK.out _ _ (SS _ (via0 g14 hH.1)) fun hH => ?_; clear hK K; try simp only [zX,zY]
   refine' wpAnyH_take (i := 31) (v := _) rfl (by kernel_rfl) (by kernel_rfl) (by kernel_rfl) (fun _ _ _ h => h) (Or.inl ⟨by rfl, ?hy100⟩) (by assumption) ?rest100
   case hy100 => (intro w hSw; (try dsimp only at hSw); go_simp<;>(rw [fld0, Result.andThen_ok]<;>with_reducible rfl))
   try simp only [zX,zY]
   refine zR1 32 (fun K hK => ?_)
   simp only [zG]
   go_simp
   refine hK.out _ _ hH fun hH => ?_; clear hK K; try simp only [zX,zY]
   refine ztk [36,37,38] ?_; repeat (refine ztn (h := ?_); try simp only [zX,zY])
   refine zte ?_
   refine zdn ?_
   have HBz := hidP (via0 hH.1 HB.out)
   clear hH
   go_wp2
   go_ret
   exact ⟨rfl, HBz.out⟩
theorem cellsU8 : Tryz.prog.cellsOf 5 = 1 := by kernel_rfl
theorem openBy {H : Type} {enc : TypeId × Value -> H} {w : World} {base n : Nat} {spare : Nat -> Bool} {held : Bool} {a : Addr} {cs : List Value} {y : DataW H × List MemPlace}
 (h1 : w.cells? base a 1 = some cs) (h2 : DataW.trod enc Tryz.prog w base spare held n 5 cs = some y) :
 ∃ x : By, x.right /\ a.spot = none /\ a.block < w.heap.size /\ ∀ j v, (Cel.cs x)[j]? = some v -> w.cell? ⟨a.block, a.off + j, none⟩ = some v := by
 obtain ⟨_, hlen, hc⟩ := World.cells?_some h1
 match cs, hlen with
 | [c0], _ =>
  obtain ⟨x, e0, _, w0⟩ := DataW.trod_int Tryz.underlying5 h2
  simp at e0
  subst e0
  have q0 := hc 0 (by omega)
  have hsp : a.spot = none := by
   cases hs : a.spot with
   | none => rfl
   | some s => exfalso; simp [Addr.add, World.cell?, hs] at q0; split at q0<;>simp at q0
  have hlt : a.block < w.heap.size := by
   rw [show a.add 0 = a from rfl] at q0
   unfold World.cell? at q0
   cases hh : w.heap[a.block]? with
   | none => simp [hh] at q0
   | some ob => exact (Array.getElem?_eq_some_iff.1 hh).1
  refine ⟨⟨x⟩, by simpa [By.right, Lit.wf, IntKind.min, IntKind.max, IntKind.signed, IntKind.bits] using w0, hsp, hlt, ?_⟩
  intro j v hv
  have hj : j < 1 := (List.getElem?_eq_some_iff.1 hv).1
  have q := hc j hj
  have e : a.add j = ⟨a.block, a.off + j, none⟩ := by
   obtain ⟨b, o, s⟩ := a
   simp only at hsp
   subst hsp
   exact Addr.add_mid b o j
  rw [e] at q
  rw [q]
  exact hv
theorem openBytes {H : Type} {enc : TypeId × Value -> H} {W : World} {base b0 : Nat} {r : Reach} {spare : Nat -> Bool} {held : Bool} {v : Value} {d : DataW H} {p : List MemPlace}
 (hv : Value.okWide Tryz.prog W r b0 22 v) (h : DataW.Trod enc Tryz.prog W base spare held 22 v d p) :
 ∃ (A : Option Addr) (cap : Nat) (l : List By), v = .slice A l.length cap /\ l.length <= 9223372036854775807 /\ (∀ x ∈ l, x.right) /\ At W A l := by
 obtain ⟨a0, len0, cap0, rfl⟩ := okWide_slice Tryz.underlying22 hv
 obtain ⟨n, g⟩ := h
 rcases open_slice Tryz.underlying22 g with ⟨e2, _⟩ | ⟨a, len, cap, m, n', D, Pl, e2, _, hl, hm, hmm, _, hx⟩
 . simp [Value.cells] at e2
   obtain ⟨rfl, rfl, rfl⟩ := e2
   exact ⟨none, 0, [], rfl, by simp, by simp, .inl rfl⟩
 . simp [Value.cells] at e2
   obtain ⟨rfl, rfl, rfl⟩ := e2
   have hle : len0 <= m := by rw [hmm]; split<;>omega
   rw [cellsU8] at hx
   obtain ⟨X, hX⟩ := choose_lt (α := By) (p := fun i x => x.right /\ (a.add (i * 1)).spot = none /\ (a.add (i * 1)).block < W.heap.size /\ ∀ j v, (Cel.cs x)[j]? = some v -> W.cell? ⟨(a.add (i * 1)).block, (a.add (i * 1)).off + j, none⟩ = some v)
    (n := len0) (fun i hi => by obtain ⟨cs', h1, h2⟩ := hx i (by omega); exact openBy h1 h2)
   obtain ⟨l, rfl, hR, hat⟩ := at_of (α := By) (by decide) (R := By.right) hX
   exact ⟨some a, cap0, l, rfl, by simp [maxLen] at hm ⊢; omega, hR, hat⟩
theorem contract (H : Type) (enc : TypeId × Value -> H) (W : World) (base : Nat) (args : Array Value) (ds gs : List (DataW H)) (before : List MemPlace)
 (hval : ∀ (j : Nat) t v, Tryz.f3.params[j]? = some t -> args[j]? = some v -> Value.okWide Tryz.prog W .any base t v)
 (hW : DataW.Whole enc Tryz.prog Tryz.f3.params.toList Rows.fnDisksSpec.vars false W args.toList ds gs before) :
 Calls Tryz.prog 3 args W fun e W' => ∃ v, e = .returned v /\ Rows.fnDisksSpec.post enc Tryz.prog Tryz.f3 false true false false W args v W' := by
 have hW' := hW
 obtain ⟨p, q, hA0, hV, rfl, hfz, hnd⟩ := hW
 have hA : DataW.TrodAll enc Tryz.prog W 0 (fun _ => true) true Tryz.f3.params.toList args.toList ds p := hA0
 rw [Tryz.params3] at hA hval
 obtain ⟨v0, vs0, d0, ds0, p0, q0, e0, rfl, rfl, h0, r0⟩ := trodAll_cons hA
 obtain ⟨rfl, rfl, rfl⟩ := trodAll_nil r0
 have e0' : args = #[v0] := by cases args; simp_all
 subst e0'
 obtain ⟨rfl, rfl⟩ := trodVars_none hV
 obtain ⟨A, cap, l, rfl, hl, hby, hat⟩ := openBytes (hval 0 22 v0 rfl rfl) h0
 refine (law_any A cap l hl hby W hat).mono fun e W' ⟨he, hb⟩ => ?_
 subst he
 exact ⟨_, rfl, post_true laidOut (by kernel_rfl) (by kernel_rfl) Tryz.underlying4 rfl rfl hW' hb⟩
theorem lifted (os : Os) (started : os.Started) (H : Type) (enc : TypeId × Value -> H) :
 ReturnsInHanded {} Tryz.checked os 3 .any (Rows.fnDisksSpec.pre6 enc Tryz.prog Tryz.f3 Rows.fnDisksRow.domain false) (Rows.fnDisksSpec.post enc Tryz.prog Tryz.f3 false true false false) := by
 refine returnsInHanded_of_change (C := Tryz.checked) own started (by kernel_rfl) Tryz.func3
  (ChangeSpec.witness6 (enc := enc) (C := Tryz.checked) false ⟨#[], #[.slice none 0 0], []⟩ 8 (by kernel_rfl) (by kernel_rfl) (by kernel_rfl) (by kernel_rfl)) ?_
 intro W base args ds gs before hval0 hW _ _
 exact contract H enc W base args ds gs before hval0 hW
theorem proved : Rows.FnDisksSaid :=
 OpenClaim.holds_of_wide 3 Tryz.f3 rfl rfl rfl rfl rfl rfl rfl ⟨rfl, rfl, rfl, rfl, rfl⟩ rfl rfl rfl rfl rfl (by kernel_rfl) Tryz.func3 (by kernel_rfl)
  (of_decide_eq_true (by kernel_rfl)) (by unfold Func.isWrapper; first | (rw [if_pos (by decide +kernel)]; kernel_rfl) | (rw [if_neg (by decide +kernel)]; exact ⟨rfl, rfl⟩))
  (fun os started H enc _ => lifted os started H enc)
end Go.Proofs.YtlniljigeemnoaaGreat.DisksLaw
namespace Go.Proofs.YtlniljigeemnoaaGreat
theorem disks_holds : Rows.FnDisksSaid := DisksLaw.proved
end Go.Proofs.YtlniljigeemnoaaGreat
