/-
  GroupOk of the specification at this seat: it answers as the program's. No condition but that its lists have at most 1048576 numbers.
-/
import Derived.Test.YtkmkldjipihceaaGreatGrpOk
set_option linter.unusedVariables false
set_option linter.unusedSimpArgs false
set_option maxRecDepth 100000
set_option maxHeartbeats 8000000
set_option maxRecDepth 100000
set_option maxHeartbeats 8000000
namespace Go.Proofs.YtkmkldjipihceaaGreat.Gen
open ChangeShapes WideShapes ChangeAt RowKit Joins Deep Base
theorem gokB_no1 {gen rows : Int} {m b o : List Int} (h : Qcz m m.length = false) : gokB gen rows m b o = false := by simp [gokB, h]
theorem gokB_no2 {gen rows : Int} {m b o : List Int} (h : Qbm b b.length = false) : gokB gen rows m b o = false := by simp [gokB, h]
theorem gokB_no3 {gen rows : Int} {m b o : List Int} (h : Qbm o o.length = false) : gokB gen rows m b o = false := by simp [gokB, h]
theorem Qh0 (gen rows : Int) (A B C : Option Addr) (ca cb cc : Nat) (m b o : List Int) (hl : m.length <= 1048576 /\ b.length <= 1048576 /\ o.length <= 1048576) (w : World) (hA : At w A m) (hB : At w B b) (hC : At w C o) :
 Calls Tryz.prog 117 #[.agg (Qa3 gen A m.length ca B b.length cb C o.length cc), .int .i64 rows] w fun e w' => e = .returned (.bool (gokB gen rows m b o)) /\ Below w.heap.size w w' := by
 have HA := hidP hA
 have HB := hidP hB
 have HC := hidP hC
 clear hA hB hC
 by_cases k1 : (b.length : Int) = (m.length : Int)
 case neg =>
  have hF : Hid (gokB gen rows m b o = false) := by show _ = _; simp only [gokB, decide_eq_false k1]; simp
  have e1 : ((b.length : Int) != (m.length : Int)) = true := by simpa using k1
  go_enter Tryz.func117, Tryz.ntmps117
  go_wp2
  go_ret
  exact ⟨by rw [hF.out]; rfl, by repeat (first | exact Below.refl _ _ | assumption | refine via0 (by assumption) ?_ | refine Below.drew ?_ | refine Qab ?_ _)⟩
 have e1 : ((b.length : Int) != (m.length : Int)) = false := by simpa using k1
 have e1' : decide ((b.length : Int) = (m.length : Int)) = true := decide_eq_true k1
 have K1 := hidP k1
 clear k1
 by_cases k2 : (o.length : Int) = rows
 case neg =>
  have hF : Hid (gokB gen rows m b o = false) := by show _ = _; simp only [gokB, decide_eq_false k2]; simp
  have e2 : ((o.length : Int) != rows) = true := by simpa using k2
  go_enter Tryz.func117, Tryz.ntmps117
  go_wp2
  go_ret
  exact ⟨by rw [hF.out]; rfl, by repeat (first | exact Below.refl _ _ | assumption | refine via0 (by assumption) ?_ | refine Below.drew ?_ | refine Qab ?_ _)⟩
 have e2 : ((o.length : Int) != rows) = false := by simpa using k2
 have e2' : decide ((o.length : Int) = rows) = true := decide_eq_true k2
 have K2 := hidP k2
 clear k2
 cases k3 : inB gen 0 100000
 . have hF : Hid (gokB gen rows m b o = false) := by show _ = _; simp [gokB, k3]
   go_enter Tryz.func117, Tryz.ntmps117
   go_wp2_with (go_at_call 32; refine (in_any _ _ _ _).mono ?_; rw [k3]; rintro e w' ⟨rfl, rfl⟩)
   go_ret
   exact ⟨by rw [hF.out]; rfl, by repeat (first | exact Below.refl _ _ | assumption | refine via0 (by assumption) ?_ | refine Below.drew ?_ | refine Qab ?_ _)⟩
 go_enter Tryz.func117, Tryz.ntmps117
 go_wp2_with (go_at_call 32; refine (in_any _ _ _ _).mono ?_; rw [k3]; rintro e w' ⟨rfl, rfl⟩)
 have P0 := Blk.new w 186 (Qa3 gen A m.length ca B b.length cb C o.length cc)
 have K3 := hidP k3
 clear e1 e2 k3 e1' e2'
 go_loopw [5] (fun i w' => ∃ (n : Nat), i = .int .i64 (n : Int) /\ n <= m.length /\ Hid (Blk w' w.heap.size 186 (Qa3 gen A m.length ca B b.length cb C o.length cc)) /\ Hid (Qcz m n = true) /\ Hid (Qbm b n = true) /\ Below w.heap.size w w') (fun i _ => m.length - (intOf i).toNat)
 case atStart => exact ⟨0, rfl, by omega, P0, rfl, rfl, by repeat (first | exact Below.refl _ _ | assumption | refine via0 (by assumption) ?_ | refine Below.drew ?_ | refine Qab ?_ _)⟩
 case round =>
  obtain ⟨n, rfl, hn, b0, hR, hN, hbl⟩ := hrel
  obtain ⟨u0, u1, u2, u3⟩ := b0.out.row4
  have hszw := b0.out.lt
  by_cases hlt : n < m.length
  . obtain ⟨b1, o1, rfl, hbs, hin⟩ : ∃ b o, A = some ⟨b, o, none⟩ /\ b < w.heap.size /\ In w b o m := by
     rcases HA.out with h | h
     . subst h; simp at hlt
     . exact h
    have hltb : n < b.length := by have := K1.out; omega
    obtain ⟨b2, o2, rfl, hbs2, hin2⟩ : ∃ b' o', B = some ⟨b', o', none⟩ /\ b' < w.heap.size /\ In w b' o' b := by
     rcases HB.out with h | h
     . subst h; simp at hltb
     . exact h
    have c0 := (hin.below hbs hbl).getInt n hlt
    have c1 := (hin2.below hbs2 hbl).getInt n hltb
    have hi0 : (0 : Int) <= (n : Int) := by omega
    have hi1 : (n : Int) < (m.length : Int) := by omega
    have hi2 : (n : Int) < (b.length : Int) := by have := hltb; omega
    cases h1' : inB m[n] 0 3
    . have h1 : Hid (inB m[n] 0 3 = false) := h1'
      have hF : Hid (gokB gen rows m b o = false) := gokB_no1 (Qd3 hlt (by rw [Qcm hlt, h1']; simp))
      clear h1'
      go_wp2
      refine wp_region_noPanic ?_
      refine wp_region_held_drew (S := (fun w' => w'.cell? ⟨w.heap.size, 1, none⟩ = some (.slice (some ⟨b1, o1, none⟩) m.length ca) /\ w'.cell? ⟨w.heap.size, 2, none⟩ = some (.slice (some ⟨b2, o2, none⟩) b.length cb) /\ w'.cell? ⟨b1, o1 + n, none⟩ = some (.int .i64 m[n]) /\ w'.cell? ⟨b2, o2 + n, none⟩ = some (.int .i64 b[n]))) (by kernel_rfl) ?_ (fun hH => ?_)
      . (refine ⟨?_, ?_, ?_, ?_⟩<;>first | assumption | (simp; done))
      refine ztk [0,1,2,3,4] ?_; repeat (refine ztn (h := ?_); try simp only [zX,zY])
      refine zte ?_
      refine zR1 5 (fun K hK => ?_)
      simp only [zG]
      go_simp
      (go_at_call 32; refine (in_any _ _ _ _).mono ?_; rw [h1.out]; rintro e w' ⟨rfl, rfl⟩)
      refine hK.out _ _ ?_ (fun hH => ?_)
      . (go_split_ands; refine ⟨?_, ?_, ?_, ?_⟩<;>assumption)
      clear hK K
      try simp only [zX,zY]
      refine ztk [6,7,8,9,10,11,12,13,14,15,16,17,18,19,20,21,22,23,24,25,26,27,28,29,30,31,32,33] ?_; repeat ((first | refine ztn (h := ?_) | refine ztu (h := ?_)); try simp only [zX,zY])
      refine zte ?_
      refine zdn ?_
      go_wp2
      go_ret
      exact ⟨by rw [hF.out]; rfl, hbl.drew⟩
    . have h1 : Hid (inB m[n] 0 3 = true) := h1'
      by_cases hz : n = 0
      . have hM : Qh2 m n = true := by rw [Qcm hlt, h1']; simp [hz]
        have hd : Hid (decide (0 < n) = false) := decide_eq_false (by omega)
        clear h1' hz
        cases h2' : inB b[n] 0 100000
        . have h2 : Hid (inB b[n] 0 100000 = false) := h2'
          have hF : Hid (gokB gen rows m b o = false) := gokB_no2 (Qdi hltb h2')
          clear h2' hM
          go_wp2
          refine wp_region_noPanic ?_
          refine wp_region_held_drew (S := (fun w' => w'.cell? ⟨w.heap.size, 1, none⟩ = some (.slice (some ⟨b1, o1, none⟩) m.length ca) /\ w'.cell? ⟨w.heap.size, 2, none⟩ = some (.slice (some ⟨b2, o2, none⟩) b.length cb) /\ w'.cell? ⟨b1, o1 + n, none⟩ = some (.int .i64 m[n]) /\ w'.cell? ⟨b2, o2 + n, none⟩ = some (.int .i64 b[n]))) (by kernel_rfl) ?_ (fun hH => ?_)
          . (refine ⟨?_, ?_, ?_, ?_⟩<;>first | assumption | (simp; done))
          refine ztk [0,1,2,3,4] ?_; repeat (refine ztn (h := ?_); try simp only [zX,zY])
          refine zte ?_
          refine zR1 5 (fun K hK => ?_)
          simp only [zG]
          go_simp
          (go_at_call 32; refine (in_any _ _ _ _).mono ?_; rw [h1.out]; rintro e w' ⟨rfl, rfl⟩)
          refine hK.out _ _ ?_ (fun hH => ?_)
          . (go_split_ands; refine ⟨?_, ?_, ?_, ?_⟩<;>assumption)
          clear hK K
          try simp only [zX,zY]
          refine ztk [6,7,8] ?_; repeat (refine ztn (h := ?_); try simp only [zX,zY])
          refine zte ?_
          refine' wpAnyH_take (i := 9) (v := _) rfl (by kernel_rfl) (by kernel_rfl) (by kernel_rfl) (fun _ _ _ h => h) (Or.inl ⟨by rfl, ?hy19⟩) (by assumption) ?rest19
          case hy19 => (intro w hSw; (try dsimp only at hSw); go_simp<;>(rw [hd.out]<;>with_reducible rfl))
          try simp only [zX,zY]
          refine ztk [10,11,12,13,14,15,16,17,18,19,20,21,22,23,24,25,26,27,28,29,30] ?_; repeat ((first | refine ztn (h := ?_) | refine ztu (h := ?_)); try simp only [zX,zY])
          refine zte ?_
          refine zR1 31 (fun K hK => ?_)
          simp only [zG]
          go_simp
          (go_at_call 32; refine (in_any _ _ _ _).mono ?_; rw [h2.out]; rintro e w' ⟨rfl, rfl⟩)
          refine hK.out _ _ ?_ (fun hH => ?_)
          . (go_split_ands; refine ⟨?_, ?_, ?_, ?_⟩<;>assumption)
          clear hK K
          try simp only [zX,zY]
          refine ztk [32,33] ?_; repeat (refine ztn (h := ?_); try simp only [zX,zY])
          refine zte ?_
          refine zdn ?_
          go_wp2
          go_ret
          exact ⟨by rw [hF.out]; rfl, hbl.drew⟩
        . have h2 : Hid (inB b[n] 0 100000 = true) := h2'
          have hG : Hid (Qbm b (n + 1) = true) := by show _ = _; rw [Qci hltb, hN.out, h2']; rfl
          have hF : Hid (Qcz m (n + 1) = true) := by show _ = _; rw [Qdr, hR.out, hM]; rfl
          clear h2' hM
          go_wp2
          refine wp_region_noPanic ?_
          refine wp_region_held_drew (S := (fun w' => w'.cell? ⟨w.heap.size, 1, none⟩ = some (.slice (some ⟨b1, o1, none⟩) m.length ca) /\ w'.cell? ⟨w.heap.size, 2, none⟩ = some (.slice (some ⟨b2, o2, none⟩) b.length cb) /\ w'.cell? ⟨b1, o1 + n, none⟩ = some (.int .i64 m[n]) /\ w'.cell? ⟨b2, o2 + n, none⟩ = some (.int .i64 b[n]))) (by kernel_rfl) ?_ (fun hH => ?_)
          . (refine ⟨?_, ?_, ?_, ?_⟩<;>first | assumption | (simp; done))
          refine ztk [0,1,2,3,4] ?_; repeat (refine ztn (h := ?_); try simp only [zX,zY])
          refine zte ?_
          refine zR1 5 (fun K hK => ?_)
          simp only [zG]
          go_simp
          (go_at_call 32; refine (in_any _ _ _ _).mono ?_; rw [h1.out]; rintro e w' ⟨rfl, rfl⟩)
          refine hK.out _ _ ?_ (fun hH => ?_)
          . (go_split_ands; refine ⟨?_, ?_, ?_, ?_⟩<;>assumption)
          clear hK K
          try simp only [zX,zY]
          refine ztk [6,7,8] ?_; repeat (refine ztn (h := ?_); try simp only [zX,zY])
          refine zte ?_
          refine' wpAnyH_take (i := 9) (v := _) rfl (by kernel_rfl) (by kernel_rfl) (by kernel_rfl) (fun _ _ _ h => h) (Or.inl ⟨by rfl, ?hy39⟩) (by assumption) ?rest39
          case hy39 => (intro w hSw; (try dsimp only at hSw); go_simp<;>(rw [hd.out]<;>with_reducible rfl))
          try simp only [zX,zY]
          refine ztk [10,11,12,13,14,15,16,17,18,19,20,21,22,23,24,25,26,27,28,29,30] ?_; repeat ((first | refine ztn (h := ?_) | refine ztu (h := ?_)); try simp only [zX,zY])
          refine zte ?_
          refine zR1 31 (fun K hK => ?_)
          simp only [zG]
          go_simp
          (go_at_call 32; refine (in_any _ _ _ _).mono ?_; rw [h2.out]; rintro e w' ⟨rfl, rfl⟩)
          refine hK.out _ _ ?_ (fun hH => ?_)
          . (go_split_ands; refine ⟨?_, ?_, ?_, ?_⟩<;>assumption)
          clear hK K
          try simp only [zX,zY]
          refine ztk [32,33] ?_; repeat (refine ztn (h := ?_); try simp only [zX,zY])
          refine zte ?_
          refine zdn ?_
          go_wp2
          exact ⟨⟨n + 1, by go_num, by omega, b0.out.drew, hF, hG, hbl.drew⟩, by simp [intOf]; omega⟩
      . obtain ⟨p, hpn⟩ : ∃ p, n = p + 1 := ⟨n - 1, by omega⟩
        have hpl : p < m.length := by omega
        have p1 := (hin.below hbs hbl).getInt p hpl
        have hd : Hid (decide (0 < n) = true) := decide_eq_true (by omega)
        have j0 : (0 : Int) <= (p : Int) := by omega
        have j1 : (p : Int) < (m.length : Int) := by omega
        have jw : Hid (IntKind.i64.wrap ((n : Int) - 1) = (p : Int)) := by
         show IntKind.i64.wrap ((n : Int) - 1) = (p : Int)
         rw [IntKind.wrap_i64]; omega
        have hpe : m.getD (n - 1) 0 = m[p] := by subst hpn; simp [hpl]
        by_cases h4 : m[p] < m[n]
        . have hM : Qh2 m n = true := by rw [Qcm hlt, h1', hpe]; simp [h4]
          have hg : Hid (decide (m[n] <= m[p]) = false) := decide_eq_false (by omega)
          clear h1' hz hpn h4 hpe
          cases h2' : inB b[n] 0 100000
          . have h2 : Hid (inB b[n] 0 100000 = false) := h2'
            have hF : Hid (gokB gen rows m b o = false) := gokB_no2 (Qdi hltb h2')
            clear h2' hM
            go_wp2
            refine wp_region_noPanic ?_
            refine wp_region_held_drew (S := (fun w' => w'.cell? ⟨w.heap.size, 1, none⟩ = some (.slice (some ⟨b1, o1, none⟩) m.length ca) /\ w'.cell? ⟨w.heap.size, 2, none⟩ = some (.slice (some ⟨b2, o2, none⟩) b.length cb) /\ w'.cell? ⟨b1, o1 + n, none⟩ = some (.int .i64 m[n]) /\ w'.cell? ⟨b2, o2 + n, none⟩ = some (.int .i64 b[n]) /\ w'.cell? ⟨b1, o1 + p, none⟩ = some (.int .i64 m[p]))) (by kernel_rfl) ?_ (fun hH => ?_)
            . (refine ⟨?_, ?_, ?_, ?_, ?_⟩<;>first | assumption | (simp; done))
            refine ztk [0,1,2,3,4] ?_; repeat (refine ztn (h := ?_); try simp only [zX,zY])
            refine zte ?_
            refine zR1 5 (fun K hK => ?_)
            simp only [zG]
            go_simp
            (go_at_call 32; refine (in_any _ _ _ _).mono ?_; rw [h1.out]; rintro e w' ⟨rfl, rfl⟩)
            refine hK.out _ _ ?_ (fun hH => ?_)
            . (go_split_ands; refine ⟨?_, ?_, ?_, ?_, ?_⟩<;>assumption)
            clear hK K
            try simp only [zX,zY]
            refine ztk [6,7,8] ?_; repeat (refine ztn (h := ?_); try simp only [zX,zY])
            refine zte ?_
            refine' wpAnyH_take (i := 9) (v := _) rfl (by kernel_rfl) (by kernel_rfl) (by kernel_rfl) (fun _ _ _ h => h) (Or.inl ⟨by rfl, ?hy59⟩) (by assumption) ?rest59
            case hy59 => (intro w hSw; (try dsimp only at hSw); go_simp<;>(rw [hd.out]<;>with_reducible rfl))
            try simp only [zX,zY]
            refine ztk [10,11,12,13] ?_; repeat (refine ztn (h := ?_); try simp only [zX,zY])
            refine zte ?_
            refine' wpAnyH_take (i := 14) (v := _) rfl (by kernel_rfl) (by kernel_rfl) (by kernel_rfl) (fun _ _ _ h => h) (Or.inl ⟨by rfl, ?hy64⟩) (by assumption) ?rest64
            case hy64 => (intro w hSw; (try dsimp only at hSw); go_simp<;>(rw [jw.out]<;>with_reducible rfl))
            try simp only [zX,zY]
            refine ztk [15,16,17,18,19,20,21] ?_; repeat (refine ztn (h := ?_); try simp only [zX,zY])
            refine zte ?_
            refine' wpAnyH_take (i := 22) (v := _) rfl (by kernel_rfl) (by kernel_rfl) (by kernel_rfl) (fun _ _ _ h => h) (Or.inl ⟨by rfl, ?hy72⟩) (by assumption) ?rest72
            case hy72 => (intro w hSw; (try dsimp only at hSw); go_simp<;>(rw [hg.out]<;>with_reducible rfl))
            try simp only [zX,zY]
            refine ztk [23,24,25,26,27,28,29,30] ?_; repeat (refine ztn (h := ?_); try simp only [zX,zY])
            refine zte ?_
            refine zR1 31 (fun K hK => ?_)
            simp only [zG]
            go_simp
            (go_at_call 32; refine (in_any _ _ _ _).mono ?_; rw [h2.out]; rintro e w' ⟨rfl, rfl⟩)
            refine hK.out _ _ ?_ (fun hH => ?_)
            . (go_split_ands; refine ⟨?_, ?_, ?_, ?_, ?_⟩<;>assumption)
            clear hK K
            try simp only [zX,zY]
            refine ztk [32,33] ?_; repeat (refine ztn (h := ?_); try simp only [zX,zY])
            refine zte ?_
            refine zdn ?_
            go_wp2
            go_ret
            exact ⟨by rw [hF.out]; rfl, hbl.drew⟩
          . have h2 : Hid (inB b[n] 0 100000 = true) := h2'
            have hG : Hid (Qbm b (n + 1) = true) := by show _ = _; rw [Qci hltb, hN.out, h2']; rfl
            have hF : Hid (Qcz m (n + 1) = true) := by show _ = _; rw [Qdr, hR.out, hM]; rfl
            clear h2' hM
            go_wp2
            refine wp_region_noPanic ?_
            refine wp_region_held_drew (S := (fun w' => w'.cell? ⟨w.heap.size, 1, none⟩ = some (.slice (some ⟨b1, o1, none⟩) m.length ca) /\ w'.cell? ⟨w.heap.size, 2, none⟩ = some (.slice (some ⟨b2, o2, none⟩) b.length cb) /\ w'.cell? ⟨b1, o1 + n, none⟩ = some (.int .i64 m[n]) /\ w'.cell? ⟨b2, o2 + n, none⟩ = some (.int .i64 b[n]) /\ w'.cell? ⟨b1, o1 + p, none⟩ = some (.int .i64 m[p]))) (by kernel_rfl) ?_ (fun hH => ?_)
            . (refine ⟨?_, ?_, ?_, ?_, ?_⟩<;>first | assumption | (simp; done))
            refine ztk [0,1,2,3,4] ?_; repeat (refine ztn (h := ?_); try simp only [zX,zY])
            refine zte ?_
            refine zR1 5 (fun K hK => ?_)
            simp only [zG]
            go_simp
            (go_at_call 32; refine (in_any _ _ _ _).mono ?_; rw [h1.out]; rintro e w' ⟨rfl, rfl⟩)
            refine hK.out _ _ ?_ (fun hH => ?_)
            . (go_split_ands; refine ⟨?_, ?_, ?_, ?_, ?_⟩<;>assumption)
            clear hK K
            try simp only [zX,zY]
            refine ztk [6,7,8] ?_; repeat (refine ztn (h := ?_); try simp only [zX,zY])
            refine zte ?_
            refine' wpAnyH_take (i := 9) (v := _) rfl (by kernel_rfl) (by kernel_rfl) (by kernel_rfl) (fun _ _ _ h => h) (Or.inl ⟨by rfl, ?hy91⟩) (by assumption) ?rest91
            case hy91 => (intro w hSw; (try dsimp only at hSw); go_simp<;>(rw [hd.out]<;>with_reducible rfl))
            try simp only [zX,zY]
            refine ztk [10,11,12,13] ?_; repeat (refine ztn (h := ?_); try simp only [zX,zY])
            refine zte ?_
            refine' wpAnyH_take (i := 14) (v := _) rfl (by kernel_rfl) (by kernel_rfl) (by kernel_rfl) (fun _ _ _ h => h) (Or.inl ⟨by rfl, ?hy96⟩) (by assumption) ?rest96
            case hy96 => (intro w hSw; (try dsimp only at hSw); go_simp<;>(rw [jw.out]<;>with_reducible rfl))
            try simp only [zX,zY]
            refine ztk [15,16,17,18,19,20,21] ?_; repeat (refine ztn (h := ?_); try simp only [zX,zY])
            refine zte ?_
            refine' wpAnyH_take (i := 22) (v := _) rfl (by kernel_rfl) (by kernel_rfl) (by kernel_rfl) (fun _ _ _ h => h) (Or.inl ⟨by rfl, ?hy104⟩) (by assumption) ?rest104
            case hy104 => (intro w hSw; (try dsimp only at hSw); go_simp<;>(rw [hg.out]<;>with_reducible rfl))
            try simp only [zX,zY]
            refine ztk [23,24,25,26,27,28,29,30] ?_; repeat (refine ztn (h := ?_); try simp only [zX,zY])
            refine zte ?_
            refine zR1 31 (fun K hK => ?_)
            simp only [zG]
            go_simp
            (go_at_call 32; refine (in_any _ _ _ _).mono ?_; rw [h2.out]; rintro e w' ⟨rfl, rfl⟩)
            refine hK.out _ _ ?_ (fun hH => ?_)
            . (go_split_ands; refine ⟨?_, ?_, ?_, ?_, ?_⟩<;>assumption)
            clear hK K
            try simp only [zX,zY]
            refine ztk [32,33] ?_; repeat (refine ztn (h := ?_); try simp only [zX,zY])
            refine zte ?_
            refine zdn ?_
            go_wp2
            exact ⟨⟨n + 1, by go_num, by omega, b0.out.drew, hF, hG, hbl.drew⟩, by simp [intOf]; omega⟩
        . have hF : Hid (gokB gen rows m b o = false) := gokB_no1 (Qd3 hlt (by rw [Qcm hlt, hpe]; simp [hz, h4]))
          have hg : Hid (decide (m[n] <= m[p]) = true) := decide_eq_true (by omega)
          clear h1' hz hpn h4 hpe
          go_wp2
          refine wp_region_noPanic ?_
          refine wp_region_held_drew (S := (fun w' => w'.cell? ⟨w.heap.size, 1, none⟩ = some (.slice (some ⟨b1, o1, none⟩) m.length ca) /\ w'.cell? ⟨w.heap.size, 2, none⟩ = some (.slice (some ⟨b2, o2, none⟩) b.length cb) /\ w'.cell? ⟨b1, o1 + n, none⟩ = some (.int .i64 m[n]) /\ w'.cell? ⟨b2, o2 + n, none⟩ = some (.int .i64 b[n]) /\ w'.cell? ⟨b1, o1 + p, none⟩ = some (.int .i64 m[p]))) (by kernel_rfl) ?_ (fun hH => ?_)
          . (refine ⟨?_, ?_, ?_, ?_, ?_⟩<;>first | assumption | (simp; done))
          refine ztk [0,1,2,3,4] ?_; repeat (refine ztn (h := ?_); try simp only [zX,zY])
          refine zte ?_
          refine zR1 5 (fun K hK => ?_)
          simp only [zG]
          go_simp
          (go_at_call 32; refine (in_any _ _ _ _).mono ?_; rw [h1.out]; rintro e w' ⟨rfl, rfl⟩)
          refine hK.out _ _ ?_ (fun hH => ?_)
          . (go_split_ands; refine ⟨?_, ?_, ?_, ?_, ?_⟩<;>assumption)
          clear hK K
          try simp only [zX,zY]
          refine ztk [6,7,8] ?_; repeat (refine ztn (h := ?_); try simp only [zX,zY])
          refine zte ?_
          refine' wpAnyH_take (i := 9) (v := _) rfl (by kernel_rfl) (by kernel_rfl) (by kernel_rfl) (fun _ _ _ h => h) (Or.inl ⟨by rfl, ?hy123⟩) (by assumption) ?rest123
          case hy123 => (intro w hSw; (try dsimp only at hSw); go_simp<;>(rw [hd.out]<;>with_reducible rfl))
          try simp only [zX,zY]
          refine ztk [10,11,12,13] ?_; repeat (refine ztn (h := ?_); try simp only [zX,zY])
          refine zte ?_
          refine' wpAnyH_take (i := 14) (v := _) rfl (by kernel_rfl) (by kernel_rfl) (by kernel_rfl) (fun _ _ _ h => h) (Or.inl ⟨by rfl, ?hy128⟩) (by assumption) ?rest128
          case hy128 => (intro w hSw; (try dsimp only at hSw); go_simp<;>(rw [jw.out]<;>with_reducible rfl))
          try simp only [zX,zY]
          refine ztk [15,16,17,18,19,20,21] ?_; repeat (refine ztn (h := ?_); try simp only [zX,zY])
          refine zte ?_
          refine' wpAnyH_take (i := 22) (v := _) rfl (by kernel_rfl) (by kernel_rfl) (by kernel_rfl) (fun _ _ _ h => h) (Or.inl ⟨by rfl, ?hy136⟩) (by assumption) ?rest136
          case hy136 => (intro w hSw; (try dsimp only at hSw); go_simp<;>(rw [hg.out]<;>with_reducible rfl))
          try simp only [zX,zY]
          refine ztk [23,24,25,26,27,28,29,30,31,32,33] ?_; repeat ((first | refine ztn (h := ?_) | refine ztu (h := ?_)); try simp only [zX,zY])
          refine zte ?_
          refine zdn ?_
          go_wp2
          go_ret
          exact ⟨by rw [hF.out]; rfl, hbl.drew⟩
  . obtain rfl : n = m.length := by omega
    have hN' : Hid (Qbm b b.length = true) := by show _ = _; have := K1.out; rw [show b.length = m.length by omega]; exact hN.out
    have b0' : Hid (Blk wr w.heap.size 186 (Qa3 gen A m.length ca B b.length cb C o.length cc)) := b0
    go_wp2
    go_loopw [6] (fun i w' => ∃ (k : Nat), i = .int .i64 (k : Int) /\ k <= o.length /\ w' = wr /\ Hid (Qbm o k = true)) (fun i _ => o.length - (intOf i).toNat)
    case atStart => exact ⟨0, rfl, by omega, rfl, rfl⟩
    case round =>
     rename_i wr2 _
     obtain ⟨k, rfl, hk, rfl, hO⟩ := hrel
     by_cases hlk : k < o.length
     . obtain ⟨b3, o3, rfl, hbs3, hin3⟩ : ∃ b' o', C = some ⟨b', o', none⟩ /\ b' < w.heap.size /\ In w b' o' o := by
        rcases HC.out with h | h
        . subst h; simp at hlk
        . exact h
       have c3 := (hin3.below hbs3 hbl).getInt k hlk
       have hi0 : (0 : Int) <= (k : Int) := by omega
       have hi1 : (k : Int) < (o.length : Int) := by omega
       cases hx : inB o[k] 0 100000
       . have hF : Hid (gokB gen rows m b o = false) := gokB_no3 (Qdi hlk hx)
         go_wp2_with (go_at_call 32; refine (in_any _ _ _ _).mono ?_; rw [hx]; rintro e w' ⟨rfl, rfl⟩)
         go_ret
         exact ⟨by rw [hF.out]; rfl, hbl⟩
       . have hF : Hid (Qbm o (k + 1) = true) := by show _ = _; rw [Qci hlk, hO.out, hx]; rfl
         go_wp2_with (go_at_call 32; refine (in_any _ _ _ _).mono ?_; rw [hx]; rintro e w' ⟨rfl, rfl⟩)
         exact ⟨⟨k + 1, by go_num, by omega, by first | rfl | trivial, hF⟩, by simp [intOf]; omega⟩
     . obtain rfl : k = o.length := by omega
       have hF : Hid (gokB gen rows m b o = true) := by
        show _ = _
        unfold gokB
        rw [K3.out, hR.out, decide_eq_true K1.out, hN'.out, decide_eq_true K2.out, hO.out]; rfl
       go_wp2
       go_ret
       exact ⟨by rw [hF.out]; rfl, hbl⟩
end Go.Proofs.YtkmkldjipihceaaGreat.Gen
