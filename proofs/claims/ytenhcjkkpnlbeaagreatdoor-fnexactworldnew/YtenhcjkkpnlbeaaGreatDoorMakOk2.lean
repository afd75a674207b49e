/-
  MakerOk of the specification and of the program at this seat: they answer alike. No condition but that there are at most 1048576 marks.
-/
import Derived.Test.YtenhcjkkpnlbeaaGreatDoorPeV
import Derived.Test.YtenhcjkkpnlbeaaGreatDoorPeC
set_option linter.unusedVariables false
set_option linter.unusedSimpArgs false
set_option maxRecDepth 100000
set_option maxHeartbeats 8000000
namespace Go.Proofs.YtenhcjkkpnlbeaaGreatDoor.Gen
open ChangeShapes WideShapes ChangeAt RowKit Joins Deep Base
theorem specOk_is (row who epoch last window : Int) (A : Option Addr) (cap : Nat) (l : List Mk) (hl : l.length <= 1048576) (w : World) (hA : At w A l) :
 Calls Tryz.prog 150 #[.agg (Qbb row who epoch last A l.length cap), .int .i64 window] w fun e w' => e = .returned (.bool (okB row who epoch last window l)) /\ Below w.heap.size w w' := by
 have HA : Hid (At w A l) := hA
 clear hA
 go_enter Tryz.func150, Tryz.ntmps150
 go_wp2
 have P0 := Blk.new w 143 (Qbb row who epoch last A l.length cap)
 go_loopw [5] (fun i w' => ∃ (n : Nat), i = .int .i64 (n : Int) /\ n <= l.length /\ Hid (Blk w' w.heap.size 143 (Qbb row who epoch last A l.length cap)) /\ Hid (Qb9 last l n = true) /\ Below w.heap.size w w') (fun i _ => l.length - (intOf i).toNat)
 case atStart => exact ⟨0, rfl, by omega, P0, rfl, by repeat (first | exact Below.refl _ _ | assumption | refine via0 (by assumption) ?_ | refine Below.drew ?_ | refine Qab ?_ _)⟩
 case round =>
  obtain ⟨n, rfl, hn, b0, hR, hbl⟩ := hrel
  obtain ⟨u0, u1, u2, u3, u4⟩ := b0.out.row5
  have hszw := b0.out.lt
  by_cases hlt : n < l.length
  . obtain ⟨b, o, rfl, hbs, hin⟩ : ∃ b o, A = some ⟨b, o, none⟩ /\ b < w.heap.size /\ In w b o l := by
     rcases HA.out with h | h
     . subst h; simp at hlt
     . exact h
    obtain ⟨c0, c1⟩ := (hin.below hbs hbl).getMk n hlt
    have hi0 : (0 : Int) <= (n : Int) := by omega
    have hi1 : (n : Int) < (l.length : Int) := by omega
    cases h1' : inB l[n].off 0 100000
    . have h1 : Hid (inB l[n].off 0 100000 = false) := h1'
      have hF : Hid (okB row who epoch last window l = false) := okB_no (Qdn hlt (by rw [Qcu hlt]; rw [h1']; simp))
      clear h1'
      go_wp2
      refine wp_region_noPanic ?_
      refine wp_region_held_drew (S := (fun w' => w'.cell? ⟨w.heap.size, 3, none⟩ = some (.int .i64 last) /\ w'.cell? ⟨w.heap.size, 4, none⟩ = some (.slice (some ⟨b, o, none⟩) l.length cap) /\ w'.cell? ⟨b, o + n * 2, none⟩ = some (.int .i64 l[n].seq) /\ w'.cell? ⟨b, o + n * 2 + 1, none⟩ = some (.int .i64 l[n].off))) (by kernel_rfl) ?_ (fun hH => ?_)
      . (refine ⟨?_, ?_, ?_, ?_⟩<;>first | assumption | (simp; done))
      refine ztk [0,1,2,3,4,5] ?_; repeat (refine ztn (h := ?_); try simp only [zX,zY])
      refine zte ?_
      refine zR1 6 (fun K hK => ?_)
      simp only [zG]
      go_simp
      (go_at_call 11; refine (in_any _ _ _ _).mono ?_; rw [h1.out]; rintro e w' ⟨rfl, rfl⟩)
      refine hK.out _ _ ?_ (fun hH => ?_)
      . (go_split_ands; refine ⟨?_, ?_, ?_, ?_⟩<;>assumption)
      clear hK K
      try simp only [zX,zY]
      refine ztk [7,8,9,10,11,12,13,14,15,16,17,18,19,20,21,22,23,24,25,26,27,28,29,30,31,32,33,34,35,36,37,38,39,40,41,42,43,44,45] ?_; repeat ((first | refine ztn (h := ?_) | refine ztu (h := ?_)); try simp only [zX,zY])
      refine zte ?_
      refine zdn ?_
      go_wp2
      go_ret
      exact ⟨by rw [hF.out]; rfl, hbl.drew⟩
    . have h1 : Hid (inB l[n].off 0 100000 = true) := h1'
      obtain ⟨L1, e1⟩ : ∃ x, Hid (IntKind.i64.wrap ((l.length : Int) - 1) = x) := ⟨_, rfl⟩
      obtain ⟨L2, e2⟩ : ∃ x, Hid (IntKind.i64.wrap (L1 - (n : Int)) = x) := ⟨_, rfl⟩
      obtain ⟨ex, e3⟩ : ∃ x, Hid (IntKind.i64.wrap (last - L2) = x) := ⟨_, rfl⟩
      have he : Qmc last l n = ex := by unfold Qmc; rw [e1.out, e2.out, e3.out]
      by_cases hs : l[n].seq = ex
      . by_cases hz : n = 0
        . have hF : Hid (Qb9 last l (n + 1) = true) := by
           show _ = _; rw [Qeh, hR.out, Qcu hlt, h1', he, hs]; simp [hz]
          have hd : Hid (decide (0 < n) = false) := decide_eq_false (by omega)
          clear h1' he hz
          go_wp2
          refine wp_region_noPanic ?_
          refine wp_region_held_drew (S := (fun w' => w'.cell? ⟨w.heap.size, 3, none⟩ = some (.int .i64 last) /\ w'.cell? ⟨w.heap.size, 4, none⟩ = some (.slice (some ⟨b, o, none⟩) l.length cap) /\ w'.cell? ⟨b, o + n * 2, none⟩ = some (.int .i64 l[n].seq) /\ w'.cell? ⟨b, o + n * 2 + 1, none⟩ = some (.int .i64 l[n].off))) (by kernel_rfl) ?_ (fun hH => ?_)
          . (refine ⟨?_, ?_, ?_, ?_⟩<;>first | assumption | (simp; done))
          refine ztk [0,1,2,3,4,5] ?_; repeat (refine ztn (h := ?_); try simp only [zX,zY])
          refine zte ?_
          refine zR1 6 (fun K hK => ?_)
          simp only [zG]
          go_simp
          (go_at_call 11; refine (in_any _ _ _ _).mono ?_; rw [h1.out]; rintro e w' ⟨rfl, rfl⟩)
          refine hK.out _ _ ?_ (fun hH => ?_)
          . (go_split_ands; refine ⟨?_, ?_, ?_, ?_⟩<;>assumption)
          clear hK K
          try simp only [zX,zY]
          refine ztk [7,8,9,10,11,12,13,14,15,16,17,18,19] ?_; repeat (refine ztn (h := ?_); try simp only [zX,zY])
          refine zte ?_
          refine' wpAnyH_take (i := 20) (v := _) rfl (by kernel_rfl) (by kernel_rfl) (by kernel_rfl) (fun _ _ _ h => h) (Or.inl ⟨by rfl, ?hy31⟩) (by assumption) ?rest31
          case hy31 => (intro w hSw; (try dsimp only at hSw); go_simp<;>(rw [e1.out]<;>with_reducible rfl))
          try simp only [zX,zY]
          refine zt1 21 ?_; refine ztn (h := ?_); try simp only [zX,zY]
          refine zte ?_
          refine' wpAnyH_take (i := 22) (v := _) rfl (by kernel_rfl) (by kernel_rfl) (by kernel_rfl) (fun _ _ _ h => h) (Or.inl ⟨by rfl, ?hy33⟩) (by assumption) ?rest33
          case hy33 => (intro w hSw; (try dsimp only at hSw); go_simp<;>(rw [e2.out]<;>with_reducible rfl))
          try simp only [zX,zY]
          refine' wpAnyH_take (i := 23) (v := _) rfl (by kernel_rfl) (by kernel_rfl) (by kernel_rfl) (fun _ _ _ h => h) (Or.inl ⟨by rfl, ?hy34⟩) (by assumption) ?rest34
          case hy34 => (intro w hSw; (try dsimp only at hSw); go_simp<;>(rw [e3.out]<;>with_reducible rfl))
          try simp only [zX,zY]
          refine ztk [24,25,26,27] ?_; repeat (refine ztn (h := ?_); try simp only [zX,zY])
          refine zte ?_
          refine' wpAnyH_take (i := 28) (v := _) rfl (by kernel_rfl) (by kernel_rfl) (by kernel_rfl) (fun _ _ _ h => h) (Or.inl ⟨by rfl, ?hy39⟩) (by assumption) ?rest39
          case hy39 => (intro w hSw; (try dsimp only at hSw); go_simp<;>(rw [hd.out]<;>with_reducible rfl))
          try simp only [zX,zY]
          refine ztk [29,30,31,32,33,34,35,36,37,38,39,40,41,42,43,44,45] ?_; repeat ((first | refine ztn (h := ?_) | refine ztu (h := ?_)); try simp only [zX,zY])
          refine zte ?_
          refine zdn ?_
          go_wp2
          exact ⟨⟨n + 1, by go_num, by omega, b0.out.drew, hF, hbl.drew⟩, by simp [intOf]; omega⟩
        . obtain ⟨p, hpn⟩ : ∃ p, n = p + 1 := ⟨n - 1, by omega⟩
          have hpl : p < l.length := by omega
          obtain ⟨_, p1⟩ := (hin.below hbs hbl).getMk p hpl
          have hd : Hid (decide (0 < n) = true) := decide_eq_true (by omega)
          have j0 : (0 : Int) <= (p : Int) := by omega
          have j1 : (p : Int) < (l.length : Int) := by omega
          have jw : Hid (IntKind.i64.wrap ((n : Int) - 1) = (p : Int)) := by
           show IntKind.i64.wrap ((n : Int) - 1) = (p : Int)
           rw [IntKind.wrap_i64]; omega
          by_cases h4 : l[p].off < l[n].off
          . have hF : Hid (Qb9 last l (n + 1) = true) := by
             show _ = _; rw [Qeh, hR.out, Qcu hlt, h1', he, hs, prev_is hpl hpn]; simp [h4]
            have h5 : ¬ l[p].off >= l[n].off := by omega
            clear h1' he hz hpn h4
            go_wp2
            refine wp_region_noPanic ?_
            refine wp_region_held_drew (S := (fun w' => w'.cell? ⟨w.heap.size, 3, none⟩ = some (.int .i64 last) /\ w'.cell? ⟨w.heap.size, 4, none⟩ = some (.slice (some ⟨b, o, none⟩) l.length cap) /\ w'.cell? ⟨b, o + n * 2, none⟩ = some (.int .i64 l[n].seq) /\ w'.cell? ⟨b, o + n * 2 + 1, none⟩ = some (.int .i64 l[n].off) /\ w'.cell? ⟨b, o + p * 2 + 1, none⟩ = some (.int .i64 l[p].off))) (by kernel_rfl) ?_ (fun hH => ?_)
            . (refine ⟨?_, ?_, ?_, ?_, ?_⟩<;>first | assumption | (simp; done))
            refine ztk [0,1,2,3,4,5] ?_; repeat (refine ztn (h := ?_); try simp only [zX,zY])
            refine zte ?_
            refine zR1 6 (fun K hK => ?_)
            simp only [zG]
            go_simp
            (go_at_call 11; refine (in_any _ _ _ _).mono ?_; rw [h1.out]; rintro e w' ⟨rfl, rfl⟩)
            refine hK.out _ _ ?_ (fun hH => ?_)
            . (go_split_ands; refine ⟨?_, ?_, ?_, ?_, ?_⟩<;>assumption)
            clear hK K
            try simp only [zX,zY]
            refine ztk [7,8,9,10,11,12,13,14,15,16,17,18,19] ?_; repeat (refine ztn (h := ?_); try simp only [zX,zY])
            refine zte ?_
            refine' wpAnyH_take (i := 20) (v := _) rfl (by kernel_rfl) (by kernel_rfl) (by kernel_rfl) (fun _ _ _ h => h) (Or.inl ⟨by rfl, ?hy62⟩) (by assumption) ?rest62
            case hy62 => (intro w hSw; (try dsimp only at hSw); go_simp<;>(rw [e1.out]<;>with_reducible rfl))
            try simp only [zX,zY]
            refine zt1 21 ?_; refine ztn (h := ?_); try simp only [zX,zY]
            refine zte ?_
            refine' wpAnyH_take (i := 22) (v := _) rfl (by kernel_rfl) (by kernel_rfl) (by kernel_rfl) (fun _ _ _ h => h) (Or.inl ⟨by rfl, ?hy64⟩) (by assumption) ?rest64
            case hy64 => (intro w hSw; (try dsimp only at hSw); go_simp<;>(rw [e2.out]<;>with_reducible rfl))
            try simp only [zX,zY]
            refine' wpAnyH_take (i := 23) (v := _) rfl (by kernel_rfl) (by kernel_rfl) (by kernel_rfl) (fun _ _ _ h => h) (Or.inl ⟨by rfl, ?hy65⟩) (by assumption) ?rest65
            case hy65 => (intro w hSw; (try dsimp only at hSw); go_simp<;>(rw [e3.out]<;>with_reducible rfl))
            try simp only [zX,zY]
            refine ztk [24,25,26,27] ?_; repeat (refine ztn (h := ?_); try simp only [zX,zY])
            refine zte ?_
            refine' wpAnyH_take (i := 28) (v := _) rfl (by kernel_rfl) (by kernel_rfl) (by kernel_rfl) (fun _ _ _ h => h) (Or.inl ⟨by rfl, ?hy70⟩) (by assumption) ?rest70
            case hy70 => (intro w hSw; (try dsimp only at hSw); go_simp<;>(rw [hd.out]<;>with_reducible rfl))
            try simp only [zX,zY]
            refine ztk [29,30,31,32] ?_; repeat (refine ztn (h := ?_); try simp only [zX,zY])
            refine zte ?_
            refine' wpAnyH_take (i := 33) (v := _) rfl (by kernel_rfl) (by kernel_rfl) (by kernel_rfl) (fun _ _ _ h => h) (Or.inl ⟨by rfl, ?hy75⟩) (by assumption) ?rest75
            case hy75 => (intro w hSw; (try dsimp only at hSw); go_simp<;>(rw [jw.out]<;>with_reducible rfl))
            try simp only [zX,zY]
            refine ztk [34,35,36,37,38,39,40,41,42,43,44,45] ?_; repeat (refine ztn (h := ?_); try simp only [zX,zY])
            refine zte ?_
            refine zdn ?_
            go_wp2
            exact ⟨⟨n + 1, by go_num, by omega, b0.out.drew, hF, hbl.drew⟩, by simp [intOf]; omega⟩
          . have hF : Hid (okB row who epoch last window l = false) := okB_no (Qdn hlt (by rw [Qcu hlt, h1', he, prev_is hpl hpn]; simp [h4]; omega))
            have h5 : l[p].off >= l[n].off := by omega
            clear h1' he hz hpn h4
            go_wp2
            refine wp_region_noPanic ?_
            refine wp_region_held_drew (S := (fun w' => w'.cell? ⟨w.heap.size, 3, none⟩ = some (.int .i64 last) /\ w'.cell? ⟨w.heap.size, 4, none⟩ = some (.slice (some ⟨b, o, none⟩) l.length cap) /\ w'.cell? ⟨b, o + n * 2, none⟩ = some (.int .i64 l[n].seq) /\ w'.cell? ⟨b, o + n * 2 + 1, none⟩ = some (.int .i64 l[n].off) /\ w'.cell? ⟨b, o + p * 2 + 1, none⟩ = some (.int .i64 l[p].off))) (by kernel_rfl) ?_ (fun hH => ?_)
            . (refine ⟨?_, ?_, ?_, ?_, ?_⟩<;>first | assumption | (simp; done))
            refine ztk [0,1,2,3,4,5] ?_; repeat (refine ztn (h := ?_); try simp only [zX,zY])
            refine zte ?_
            refine zR1 6 (fun K hK => ?_)
            simp only [zG]
            go_simp
            (go_at_call 11; refine (in_any _ _ _ _).mono ?_; rw [h1.out]; rintro e w' ⟨rfl, rfl⟩)
            refine hK.out _ _ ?_ (fun hH => ?_)
            . (go_split_ands; refine ⟨?_, ?_, ?_, ?_, ?_⟩<;>assumption)
            clear hK K
            try simp only [zX,zY]
            refine ztk [7,8,9,10,11,12,13,14,15,16,17,18,19] ?_; repeat (refine ztn (h := ?_); try simp only [zX,zY])
            refine zte ?_
            refine' wpAnyH_take (i := 20) (v := _) rfl (by kernel_rfl) (by kernel_rfl) (by kernel_rfl) (fun _ _ _ h => h) (Or.inl ⟨by rfl, ?hy107⟩) (by assumption) ?rest107
            case hy107 => (intro w hSw; (try dsimp only at hSw); go_simp<;>(rw [e1.out]<;>with_reducible rfl))
            try simp only [zX,zY]
            refine zt1 21 ?_; refine ztn (h := ?_); try simp only [zX,zY]
            refine zte ?_
            refine' wpAnyH_take (i := 22) (v := _) rfl (by kernel_rfl) (by kernel_rfl) (by kernel_rfl) (fun _ _ _ h => h) (Or.inl ⟨by rfl, ?hy109⟩) (by assumption) ?rest109
            case hy109 => (intro w hSw; (try dsimp only at hSw); go_simp<;>(rw [e2.out]<;>with_reducible rfl))
            try simp only [zX,zY]
            refine' wpAnyH_take (i := 23) (v := _) rfl (by kernel_rfl) (by kernel_rfl) (by kernel_rfl) (fun _ _ _ h => h) (Or.inl ⟨by rfl, ?hy110⟩) (by assumption) ?rest110
            case hy110 => (intro w hSw; (try dsimp only at hSw); go_simp<;>(rw [e3.out]<;>with_reducible rfl))
            try simp only [zX,zY]
            refine ztk [24,25,26,27] ?_; repeat (refine ztn (h := ?_); try simp only [zX,zY])
            refine zte ?_
            refine' wpAnyH_take (i := 28) (v := _) rfl (by kernel_rfl) (by kernel_rfl) (by kernel_rfl) (fun _ _ _ h => h) (Or.inl ⟨by rfl, ?hy115⟩) (by assumption) ?rest115
            case hy115 => (intro w hSw; (try dsimp only at hSw); go_simp<;>(rw [hd.out]<;>with_reducible rfl))
            try simp only [zX,zY]
            refine ztk [29,30,31,32] ?_; repeat (refine ztn (h := ?_); try simp only [zX,zY])
            refine zte ?_
            refine' wpAnyH_take (i := 33) (v := _) rfl (by kernel_rfl) (by kernel_rfl) (by kernel_rfl) (fun _ _ _ h => h) (Or.inl ⟨by rfl, ?hy120⟩) (by assumption) ?rest120
            case hy120 => (intro w hSw; (try dsimp only at hSw); go_simp<;>(rw [jw.out]<;>with_reducible rfl))
            try simp only [zX,zY]
            refine ztk [34,35,36,37,38,39,40,41,42,43,44,45] ?_; repeat (refine ztn (h := ?_); try simp only [zX,zY])
            refine zte ?_
            refine zdn ?_
            go_wp2
            go_ret
            exact ⟨by rw [hF.out]; rfl, hbl.drew⟩
      . have hF : Hid (okB row who epoch last window l = false) := okB_no (Qdn hlt (by rw [Qcu hlt, h1', he]; simp [hs]))
        have hne1 : Hid ((l[n].seq != ex) = true) := by show _ = _; simpa using hs
        have hne2 : Hid ((!decide (l[n].seq = ex)) = true) := by show _ = _; simpa using hs
        have hne3 : Hid (decide (l[n].seq ≠ ex) = true) := by show _ = _; simpa using hs
        clear h1' he
        go_wp2
        refine wp_region_noPanic ?_
        refine wp_region_held_drew (S := (fun w' => w'.cell? ⟨w.heap.size, 3, none⟩ = some (.int .i64 last) /\ w'.cell? ⟨w.heap.size, 4, none⟩ = some (.slice (some ⟨b, o, none⟩) l.length cap) /\ w'.cell? ⟨b, o + n * 2, none⟩ = some (.int .i64 l[n].seq) /\ w'.cell? ⟨b, o + n * 2 + 1, none⟩ = some (.int .i64 l[n].off))) (by kernel_rfl) ?_ (fun hH => ?_)
        . (refine ⟨?_, ?_, ?_, ?_⟩<;>first | assumption | (simp; done))
        refine ztk [0,1,2,3,4,5] ?_; repeat (refine ztn (h := ?_); try simp only [zX,zY])
        refine zte ?_
        refine zR1 6 (fun K hK => ?_)
        simp only [zG]
        go_simp
        (go_at_call 11; refine (in_any _ _ _ _).mono ?_; rw [h1.out]; rintro e w' ⟨rfl, rfl⟩)
        refine hK.out _ _ ?_ (fun hH => ?_)
        . (go_split_ands; refine ⟨?_, ?_, ?_, ?_⟩<;>assumption)
        clear hK K
        try simp only [zX,zY]
        refine ztk [7,8,9,10,11,12,13,14,15,16,17,18,19] ?_; repeat (refine ztn (h := ?_); try simp only [zX,zY])
        refine zte ?_
        refine' wpAnyH_take (i := 20) (v := _) rfl (by kernel_rfl) (by kernel_rfl) (by kernel_rfl) (fun _ _ _ h => h) (Or.inl ⟨by rfl, ?hy152⟩) (by assumption) ?rest152
        case hy152 => (intro w hSw; (try dsimp only at hSw); go_simp<;>(rw [e1.out]<;>with_reducible rfl))
        try simp only [zX,zY]
        refine zt1 21 ?_; refine ztn (h := ?_); try simp only [zX,zY]
        refine zte ?_
        refine' wpAnyH_take (i := 22) (v := _) rfl (by kernel_rfl) (by kernel_rfl) (by kernel_rfl) (fun _ _ _ h => h) (Or.inl ⟨by rfl, ?hy154⟩) (by assumption) ?rest154
        case hy154 => (intro w hSw; (try dsimp only at hSw); go_simp<;>(rw [e2.out]<;>with_reducible rfl))
        try simp only [zX,zY]
        refine' wpAnyH_take (i := 23) (v := _) rfl (by kernel_rfl) (by kernel_rfl) (by kernel_rfl) (fun _ _ _ h => h) (Or.inl ⟨by rfl, ?hy155⟩) (by assumption) ?rest155
        case hy155 => (intro w hSw; (try dsimp only at hSw); go_simp<;>(rw [e3.out]<;>with_reducible rfl))
        try simp only [zX,zY]
        refine' wpAnyH_take (i := 24) (v := _) rfl (by kernel_rfl) (by kernel_rfl) (by kernel_rfl) (fun _ _ _ h => h) (Or.inl ⟨by rfl, ?hy156⟩) (by assumption) ?rest156
        case hy156 => (intro w hSw; (try dsimp only at hSw); go_simp<;>(first | rw [hne1.out] | rw [hne2.out] | rw [hne3.out]<;>with_reducible rfl))
        try simp only [zX,zY]
        refine ztk [25,26,27,28,29,30,31,32,33,34,35,36,37,38,39,40,41,42,43,44,45] ?_; repeat ((first | refine ztn (h := ?_) | refine ztu (h := ?_)); try simp only [zX,zY])
        refine zte ?_
        refine zdn ?_
        go_wp2
        go_ret
        exact ⟨by rw [hF.out]; rfl, hbl.drew⟩
  . obtain rfl : n = l.length := by omega
    by_cases h1 : (l.length : Int) > window
    . have hF : Hid (okB row who epoch last window l = false) := by
       show _ = _
       have a : decide ((l.length : Int) <= window) = false := decide_eq_false (by omega)
       unfold okB; rw [a]; simp
      go_wp2
      go_ret
      exact ⟨by rw [hF.out]; rfl, hbl⟩
    have h1' : decide ((l.length : Int) > window) = false := decide_eq_false h1
    by_cases h2 : (l.length : Int) > wrap64 (last + 1)
    . have hF : Hid (okB row who epoch last window l = false) := okB_two hl h2
      go_wp2
      go_ret
      exact ⟨by rw [hF.out]; rfl, hbl⟩
    have h2' : decide ((l.length : Int) > wrap64 (last + 1)) = false := decide_eq_false h2
    by_cases h3 : last >= 0
    . by_cases h4 : (l.length : Int) = 0
      . have hF : Hid (okB row who epoch last window l = false) := okB_three h3 h4
        have h4' := hidP h4
        go_wp2
        go_ret
        exact ⟨by rw [hF.out]; rfl, hbl⟩
      . have hF : Hid (okB row who epoch last window l = (inB row 0 3 && (inB who 0 3 && (inB epoch 0 100000 && inB last (-1) 100000)))) := okB_yes hl hR.out h1 h2 (fun h => h4 h.2)
        have h4' : decide ((l.length : Int) = 0) = false := decide_eq_false h4
        cases k1 : inB row 0 3<;>cases k2 : inB who 0 3<;>cases k3 : inB epoch 0 100000<;>cases k4 : inB last (-1) 100000
        all_goals
         rw [k1, k2, k3, k4] at hF
         go_wp2_with (go_at_call 11; refine (in_any _ _ _ _).mono ?_; (first | rw [k1] | rw [k2] | rw [k3] | rw [k4]); rintro e w' ⟨rfl, rfl⟩)
         go_ret
         exact ⟨by rw [hF.out]; rfl, hbl⟩
    . have hF : Hid (okB row who epoch last window l = (inB row 0 3 && (inB who 0 3 && (inB epoch 0 100000 && inB last (-1) 100000)))) := okB_yes hl hR.out h1 h2 (fun h => h3 h.1)
      have h3' : decide (last >= 0) = false := decide_eq_false h3
      cases k1 : inB row 0 3<;>cases k2 : inB who 0 3<;>cases k3 : inB epoch 0 100000<;>cases k4 : inB last (-1) 100000
      all_goals
       rw [k1, k2, k3, k4] at hF
       go_wp2_with (go_at_call 11; refine (in_any _ _ _ _).mono ?_; (first | rw [k1] | rw [k2] | rw [k3] | rw [k4]); rintro e w' ⟨rfl, rfl⟩)
       go_ret
       exact ⟨by rw [hF.out]; rfl, hbl⟩
end Go.Proofs.YtenhcjkkpnlbeaaGreatDoor.Gen
namespace Go.Proofs.YtenhcjkkpnlbeaaGreatDoor.Gen
open ChangeShapes WideShapes ChangeAt RowKit Joins Deep Base
def Qcx (l : List Int) (n : Nat) : Bool := (l.take n).all fun x => inB x 0 100000
theorem Qd0 {l : List Int} {n : Nat} (h : n < l.length) : Qcx l (n + 1) = (Qcx l n && inB l[n] 0 100000) := by
 unfold Qcx; rw [List.take_succ_eq_append_getElem h, List.all_append]; simp
theorem Qfh {l : List Int} {n : Nat} (h : n < l.length) (hx : inB l[n] 0 100000 = false) : Qcx l l.length = false := by
 unfold Qcx; rw [List.take_length, List.all_eq_false]; exact ⟨l[n], List.getElem_mem h, by simp [hx]⟩
def Qmi (m : List Int) (j : Nat) : Bool := inB (m.getD j 0) 0 3 && (decide (j = 0) || decide (m.getD (j - 1) 0 < m.getD j 0))
def Qek (m : List Int) (n : Nat) : Bool := (List.range n).all (Qmi m)
theorem Qfz (m : List Int) (n : Nat) : Qek m (n + 1) = (Qek m n && Qmi m n) := by simp [Qek, List.range_succ]
theorem Qgp {m : List Int} {n : Nat} (h : n < m.length) (hx : Qmi m n = false) : Qek m m.length = false := by
 unfold Qek; rw [List.all_eq_false]; exact ⟨n, by simpa using h, by simp [hx]⟩
theorem Qd8 {m : List Int} {n : Nat} (h : n < m.length) : Qmi m n = (inB m[n] 0 3 && (decide (n = 0) || decide (m.getD (n - 1) 0 < m[n]))) := by simp [Qmi, h]
def gokB (gen rows : Int) (m b o : List Int) : Bool :=
  inB gen 0 100000 && Qek m m.length && decide ((b.length : Int) = (m.length : Int)) && Qcx b b.length && decide ((o.length : Int) = rows) && Qcx o o.length
theorem Qf4 (A : Option Addr) (cap : Nat) (l : List Int) (hl : l.length <= 1048576) (w : World) (hA : At w A l) :
 Calls Tryz.prog 135 #[.slice A l.length cap] w fun e w' => e = .returned (.bool (Qcx l l.length)) /\ w' = w := by
 have HA := hidP hA
 clear hA
 go_enter Tryz.func135, Tryz.ntmps135
 go_wp2
 go_loopw [7] (fun i w' => ∃ (n : Nat), i = .int .i64 (n : Int) /\ n <= l.length /\ w' = w /\ Hid (Qcx l n = true)) (fun i _ => l.length - (intOf i).toNat)
 case atStart => exact ⟨0, rfl, by omega, rfl, rfl⟩
 case round =>
  obtain ⟨n, rfl, hn, rfl, hR⟩ := hrel
  by_cases hlt : n < l.length
  . obtain ⟨bb, oo, rfl, hbs, hin⟩ : ∃ b o, A = some ⟨b, o, none⟩ /\ b < wr.heap.size /\ In wr b o l := by
     rcases HA.out with h | h
     . subst h; simp at hlt
     . exact h
    have c0 := hin.getInt n hlt
    have hi0 : (0 : Int) <= (n : Int) := by omega
    have hi1 : (n : Int) < (l.length : Int) := by omega
    cases hx : inB l[n] 0 100000
    . have hF : Hid (Qcx l l.length = false) := Qfh hlt hx
      go_wp2_with (go_at_call 76; refine (within_any _ _ _ _).mono ?_; rw [hx]; rintro e w1 ⟨rfl, rfl⟩)
      go_ret
      exact ⟨by rw [hF.out]; rfl, rfl⟩
    . have hF : Hid (Qcx l (n + 1) = true) := by show _ = _; rw [Qd0 hlt, hR.out, hx]; rfl
      go_wp2_with (go_at_call 76; refine (within_any _ _ _ _).mono ?_; rw [hx]; rintro e w1 ⟨rfl, rfl⟩)
      exact ⟨⟨n + 1, by go_num, by omega, by first | rfl | trivial, hF⟩, by simp [intOf]; omega⟩
  . obtain rfl : n = l.length := by omega
    go_wp2
    go_ret
    exact ⟨by rw [hR.out]; rfl, rfl⟩
theorem Qem (x : Int) (w : World) : Calls Tryz.prog 93 #[.int .i64 x] w fun e w' => e = .returned (.bool (inB x 0 3)) /\ w' = w := by
 go_enter Tryz.func93, Tryz.ntmps93
 go_wp2_with fail
 refine (within_any x 0 3 _).mono ?_
 rintro e w1 ⟨rfl, rfl⟩
 go_wp2
 go_ret
 exact ⟨rfl, rfl⟩
theorem Qmu (A : Option Addr) (cap : Nat) (m : List Int) (hl : m.length <= 1048576) (w : World) (hA : At w A m) :
 Calls Tryz.prog 172 #[.slice A m.length cap] w fun e w' => e = .returned (.bool (Qek m m.length)) /\ w' = w := by
 have HA := hidP hA
 clear hA
 go_enter Tryz.func172, Tryz.ntmps172
 go_wp2
 go_loopw [3, 8] (fun lo i w' => ∃ (n : Nat) (y : Int), i = .int .i64 (n : Int) /\ lo = .int .i64 y /\ n <= m.length /\ 0 <= y /\ y <= 4 /\ w' = w /\ Hid (y = if n = 0 then 0 else m.getD (n - 1) 0 + 1) /\ Hid (Qek m n = true)) (fun _ i _ => m.length - (intOf i).toNat)
 case atStart => exact ⟨0, 0, rfl, rfl, by omega, by omega, by omega, rfl, rfl, rfl⟩
 case round =>
  obtain ⟨n, y, rfl, rfl, hn, hy0, hy1, rfl, hy, hR⟩ := hrel
  by_cases hlt : n < m.length
  . obtain ⟨bb, oo, rfl, hbs, hin⟩ : ∃ b o, A = some ⟨b, o, none⟩ /\ b < wr.heap.size /\ In wr b o m := by
     rcases HA.out with h | h
     . subst h; simp at hlt
     . exact h
    have c0 := hin.getInt n hlt
    have hi0 : (0 : Int) <= (n : Int) := by omega
    have hi1 : (n : Int) < (m.length : Int) := by omega
    by_cases h1 : m[n] < y
    . have hF : Hid (Qek m m.length = false) := Qgp hlt (by
       rw [Qd8 hlt]
       have hy' := hy.out
       by_cases hz : n = 0
       . rw [if_pos hz] at hy'
         have : inB m[n] 0 3 = false := by simp [inB]; omega
         rw [this]; simp
       . rw [if_neg hz] at hy'
         have : decide (m.getD (n - 1) 0 < m[n]) = false := decide_eq_false (by omega)
         rw [this]; simp [hz])
      go_wp2_with fail
      go_ret
      exact ⟨by rw [hF.out]; rfl, rfl⟩
    . have h1' : decide (m[n] < y) = false := decide_eq_false h1
      cases hx : inB m[n] 0 3
      . have hF : Hid (Qek m m.length = false) := Qgp hlt (by rw [Qd8 hlt, hx]; simp)
        go_wp2_with (go_at_call 93; refine (Qem _ _).mono ?_; rw [hx]; rintro e w1 ⟨rfl, rfl⟩)
        go_ret
        exact ⟨by rw [hF.out]; rfl, rfl⟩
      . obtain ⟨hx0, hx1⟩ : 0 <= m[n] /\ m[n] <= 3 := by simpa [inB] using hx
        have hF : Hid (Qek m (n + 1) = true) := by
         show _ = _
         rw [Qfz, hR.out, Qd8 hlt, hx]
         have hy' := hy.out
         by_cases hz : n = 0
         . simp [hz]
         . rw [if_neg hz] at hy'
           have : decide (m.getD (n - 1) 0 < m[n]) = true := decide_eq_true (by omega)
           rw [this]; simp
        have hO : Hid (m[n] + 1 = if n + 1 = 0 then 0 else m.getD (n + 1 - 1) 0 + 1) := by show _ = _; simp [hlt]
        go_wp2_with (go_at_call 93; refine (Qem _ _).mono ?_; rw [hx]; rintro e w1 ⟨rfl, rfl⟩)
        exact ⟨⟨n + 1, m[n] + 1, by go_num, rfl, by omega, by omega, by omega, by first | rfl | trivial, hO, hF⟩, by simp [intOf]; omega⟩
  . obtain rfl : n = m.length := by omega
    go_wp2
    go_ret
    exact ⟨by rw [hR.out]; rfl, rfl⟩
theorem Qmy (gen rows : Int) (A B C : Option Addr) (ca cb cc : Nat) (m b o : List Int) (hl : m.length <= 1048576 /\ b.length <= 1048576 /\ o.length <= 1048576) (w : World) (hA : At w A m) (hB : At w B b) (hC : At w C o) :
 Calls Tryz.prog 134 #[.agg (Qa3 gen A m.length ca B b.length cb C o.length cc), .int .i64 rows] w fun e w' => e = .returned (.bool (gokB gen rows m b o)) /\ Below w.heap.size w w' := by
 have HA := hidP hA
 have HB := hidP hB
 have HC := hidP hC
 have h1 := hidP (fun W hW => Qf4 B cb b hl.2.1 W hW)
 have h2 := hidP (fun W hW => Qf4 C cc o hl.2.2 W hW)
 have h3 := hidP (fun W hW => Qmu A ca m hl.1 W hW)
 clear hA hB hC
 have Hok : Hid (∀ a1 a2 a3 a4 a5 a6 : Bool, a1 = inB gen 0 100000 -> a2 = Qek m m.length -> a3 = decide ((b.length : Int) = (m.length : Int)) -> a4 = Qcx b b.length -> a5 = decide ((o.length : Int) = rows) -> a6 = Qcx o o.length -> gokB gen rows m b o = (a1 && a2 && a3 && a4 && a5 && a6)) := by
  intro a1 a2 a3 a4 a5 a6 e1 e2 e3 e4 e5 e6
  subst e1 e2 e3 e4 e5 e6
  rfl
 generalize gokB gen rows m b o = ans at *
 generalize Qek m m.length = mt at *
 generalize Qcx b b.length = nb at *
 generalize Qcx o o.length = no at *
 go_enter Tryz.func134, Tryz.ntmps134
 go_wp2_with (first
  | (go_at_call 76; refine (within_any _ _ _ _).mono ?_; rintro e w' ⟨rfl, rfl⟩)
  | (go_at_call 172; refine (h3.out _ (HA.out.below (by repeat (first | exact Below.refl _ _ | assumption | refine via0 (by assumption) ?_ | refine Below.drew ?_ | refine Qab ?_ _)))).mono ?_; rintro e w' ⟨rfl, rfl⟩)
  | (go_at_call_of 135 (Value.slice B b.length cb); refine (h1.out _ (HB.out.below (by repeat (first | exact Below.refl _ _ | assumption | refine via0 (by assumption) ?_ | refine Below.drew ?_ | refine Qab ?_ _)))).mono ?_; rintro e w' ⟨rfl, rfl⟩)
  | (go_at_call_of 135 (Value.slice C o.length cc); refine (h2.out _ (HC.out.below (by repeat (first | exact Below.refl _ _ | assumption | refine via0 (by assumption) ?_ | refine Below.drew ?_ | refine Qab ?_ _)))).mono ?_; rintro e w' ⟨rfl, rfl⟩))
 all_goals
  go_ret
  refine ⟨?_, by repeat (first | exact Below.refl _ _ | assumption | refine via0 (by assumption) ?_ | refine Below.drew ?_ | refine Qab ?_ _)⟩
  rw [Hok.out _ _ _ _ _ _ rfl rfl rfl rfl rfl rfl]
  clear Hok h1 h2 h3 HA HB HC
  refine congrArg (fun b : Bool => Ending.returned (Value.bool b)) (?_ : _ = _)
  simp_all
end Go.Proofs.YtenhcjkkpnlbeaaGreatDoor.Gen
namespace Go.Proofs.YtenhcjkkpnlbeaaGreatDoor.Gen
open ChangeShapes WideShapes ChangeAt RowKit Joins Deep Base
theorem gokB_no1 {gen rows : Int} {m b o : List Int} (h : Qek m m.length = false) : gokB gen rows m b o = false := by simp [gokB, h]
theorem gokB_no2 {gen rows : Int} {m b o : List Int} (h : Qcx b b.length = false) : gokB gen rows m b o = false := by simp [gokB, h]
theorem gokB_no3 {gen rows : Int} {m b o : List Int} (h : Qcx o o.length = false) : gokB gen rows m b o = false := by simp [gokB, h]
theorem Qmb (gen rows : Int) (A B C : Option Addr) (ca cb cc : Nat) (m b o : List Int) (hl : m.length <= 1048576 /\ b.length <= 1048576 /\ o.length <= 1048576) (w : World) (hA : At w A m) (hB : At w B b) (hC : At w C o) :
 Calls Tryz.prog 111 #[.agg (Qa3 gen A m.length ca B b.length cb C o.length cc), .int .i64 rows] w fun e w' => e = .returned (.bool (gokB gen rows m b o)) /\ Below w.heap.size w w' := by
 have HA := hidP hA
 have HB := hidP hB
 have HC := hidP hC
 clear hA hB hC
 by_cases k1 : (b.length : Int) = (m.length : Int)
 case neg =>
  have hF : Hid (gokB gen rows m b o = false) := by show _ = _; simp only [gokB, decide_eq_false k1]; simp
  have e1 : ((b.length : Int) != (m.length : Int)) = true := by simpa using k1
  go_enter Tryz.func111, Tryz.ntmps111
  go_wp2
  go_ret
  exact ⟨by rw [hF.out]; rfl, by repeat (first | exact Below.refl _ _ | assumption | refine via0 (by assumption) ?_ | refine Below.drew ?_ | refine Qab ?_ _)⟩
 have e1 : ((b.length : Int) != (m.length : Int)) = false := by simpa using k1
 have e1' : decide ((b.length : Int) = (m.length : Int)) = true := decide_eq_true k1
 have K1 := hidP k1
 clear k1
 by_cases k2 : (o.length : Int) = rows
 case neg =>
  have hF : Hid (gokB gen rows m b o = false) := by show _ = _; simp only [gokB, decide_eq_false k2]; simp
  have e2 : ((o.length : Int) != rows) = true := by simpa using k2
  go_enter Tryz.func111, Tryz.ntmps111
  go_wp2
  go_ret
  exact ⟨by rw [hF.out]; rfl, by repeat (first | exact Below.refl _ _ | assumption | refine via0 (by assumption) ?_ | refine Below.drew ?_ | refine Qab ?_ _)⟩
 have e2 : ((o.length : Int) != rows) = false := by simpa using k2
 have e2' : decide ((o.length : Int) = rows) = true := decide_eq_true k2
 have K2 := hidP k2
 clear k2
 cases k3 : inB gen 0 100000
 . have hF : Hid (gokB gen rows m b o = false) := by show _ = _; simp [gokB, k3]
   go_enter Tryz.func111, Tryz.ntmps111
   go_wp2_with (go_at_call 11; refine (in_any _ _ _ _).mono ?_; rw [k3]; rintro e w' ⟨rfl, rfl⟩)
   go_ret
   exact ⟨by rw [hF.out]; rfl, by repeat (first | exact Below.refl _ _ | assumption | refine via0 (by assumption) ?_ | refine Below.drew ?_ | refine Qab ?_ _)⟩
 go_enter Tryz.func111, Tryz.ntmps111
 go_wp2_with (go_at_call 11; refine (in_any _ _ _ _).mono ?_; rw [k3]; rintro e w' ⟨rfl, rfl⟩)
 have P0 := Blk.new w 110 (Qa3 gen A m.length ca B b.length cb C o.length cc)
 have K3 := hidP k3
 clear e1 e2 k3 e1' e2'
 go_loopw [5] (fun i w' => ∃ (n : Nat), i = .int .i64 (n : Int) /\ n <= m.length /\ Hid (Blk w' w.heap.size 110 (Qa3 gen A m.length ca B b.length cb C o.length cc)) /\ Hid (Qek m n = true) /\ Hid (Qcx b n = true) /\ Below w.heap.size w w') (fun i _ => m.length - (intOf i).toNat)
 case atStart => exact ⟨0, rfl, by omega, P0, rfl, rfl, by repeat (first | exact Below.refl _ _ | assumption | refine via0 (by assumption) ?_ | refine Below.drew ?_ | refine Qab ?_ _)⟩
 case round =>
  obtain ⟨n, rfl, hn, b0, hR, hN, hbl⟩ := hrel
  obtain ⟨u0, u1, u2, u3⟩ := b0.out.row4
  have hszw := b0.out.lt
  by_cases hlt : n < m.length
  . obtain ⟨b1, o1, rfl, hbs, hin⟩ : ∃ b o, A = some ⟨b, o, none⟩ /\ b < w.heap.size /\ In w b o m := by
     rcases HA.out with h | h
     . subst h; simp at hlt
     . exact h
    have hltb : n < b.length := by have := K1.out; omega
    obtain ⟨b2, o2, rfl, hbs2, hin2⟩ : ∃ b' o', B = some ⟨b', o', none⟩ /\ b' < w.heap.size /\ In w b' o' b := by
     rcases HB.out with h | h
     . subst h; simp at hltb
     . exact h
    have c0 := (hin.below hbs hbl).getInt n hlt
    have c1 := (hin2.below hbs2 hbl).getInt n hltb
    have hi0 : (0 : Int) <= (n : Int) := by omega
    have hi1 : (n : Int) < (m.length : Int) := by omega
    have hi2 : (n : Int) < (b.length : Int) := by have := hltb; omega
    cases h1' : inB m[n] 0 3
    . have h1 : Hid (inB m[n] 0 3 = false) := h1'
      have hF : Hid (gokB gen rows m b o = false) := gokB_no1 (Qgp hlt (by rw [Qd8 hlt, h1']; simp))
      clear h1'
      go_wp2
      refine wp_region_noPanic ?_
      refine wp_region_held_drew (S := (fun w' => w'.cell? ⟨w.heap.size, 1, none⟩ = some (.slice (some ⟨b1, o1, none⟩) m.length ca) /\ w'.cell? ⟨w.heap.size, 2, none⟩ = some (.slice (some ⟨b2, o2, none⟩) b.length cb) /\ w'.cell? ⟨b1, o1 + n, none⟩ = some (.int .i64 m[n]) /\ w'.cell? ⟨b2, o2 + n, none⟩ = some (.int .i64 b[n]))) (by kernel_rfl) ?_ (fun hH => ?_)
      . (refine ⟨?_, ?_, ?_, ?_⟩<;>first | assumption | (simp; done))
      refine ztk [0,1,2,3,4] ?_; repeat (refine ztn (h := ?_); try simp only [zX,zY])
      refine zte ?_
      refine zR1 5 (fun K hK => ?_)
      simp only [zG]
      go_simp
      (go_at_call 11; refine (in_any _ _ _ _).mono ?_; rw [h1.out]; rintro e w' ⟨rfl, rfl⟩)
      refine hK.out _ _ ?_ (fun hH => ?_)
      . (go_split_ands; refine ⟨?_, ?_, ?_, ?_⟩<;>assumption)
      clear hK K
      try simp only [zX,zY]
      refine ztk [6,7,8,9,10,11,12,13,14,15,16,17,18,19,20,21,22,23,24,25,26,27,28,29,30,31,32,33] ?_; repeat ((first | refine ztn (h := ?_) | refine ztu (h := ?_)); try simp only [zX,zY])
      refine zte ?_
      refine zdn ?_
      go_wp2
      go_ret
      exact ⟨by rw [hF.out]; rfl, hbl.drew⟩
    . have h1 : Hid (inB m[n] 0 3 = true) := h1'
      by_cases hz : n = 0
      . have hM : Qmi m n = true := by rw [Qd8 hlt, h1']; simp [hz]
        have hd : Hid (decide (0 < n) = false) := decide_eq_false (by omega)
        clear h1' hz
        cases h2' : inB b[n] 0 100000
        . have h2 : Hid (inB b[n] 0 100000 = false) := h2'
          have hF : Hid (gokB gen rows m b o = false) := gokB_no2 (Qfh hltb h2')
          clear h2' hM
          go_wp2
          refine wp_region_noPanic ?_
          refine wp_region_held_drew (S := (fun w' => w'.cell? ⟨w.heap.size, 1, none⟩ = some (.slice (some ⟨b1, o1, none⟩) m.length ca) /\ w'.cell? ⟨w.heap.size, 2, none⟩ = some (.slice (some ⟨b2, o2, none⟩) b.length cb) /\ w'.cell? ⟨b1, o1 + n, none⟩ = some (.int .i64 m[n]) /\ w'.cell? ⟨b2, o2 + n, none⟩ = some (.int .i64 b[n]))) (by kernel_rfl) ?_ (fun hH => ?_)
          . (refine ⟨?_, ?_, ?_, ?_⟩<;>first | assumption | (simp; done))
          refine ztk [0,1,2,3,4] ?_; repeat (refine ztn (h := ?_); try simp only [zX,zY])
          refine zte ?_
          refine zR1 5 (fun K hK => ?_)
          simp only [zG]
          go_simp
          (go_at_call 11; refine (in_any _ _ _ _).mono ?_; rw [h1.out]; rintro e w' ⟨rfl, rfl⟩)
          refine hK.out _ _ ?_ (fun hH => ?_)
          . (go_split_ands; refine ⟨?_, ?_, ?_, ?_⟩<;>assumption)
          clear hK K
          try simp only [zX,zY]
          refine ztk [6,7,8] ?_; repeat (refine ztn (h := ?_); try simp only [zX,zY])
          refine zte ?_
          refine' wpAnyH_take (i := 9) (v := _) rfl (by kernel_rfl) (by kernel_rfl) (by kernel_rfl) (fun _ _ _ h => h) (Or.inl ⟨by rfl, ?hy19⟩) (by assumption) ?rest19
          case hy19 => (intro w hSw; (try dsimp only at hSw); go_simp<;>(rw [hd.out]<;>with_reducible rfl))
          try simp only [zX,zY]
          refine ztk [10,11,12,13,14,15,16,17,18,19,20,21,22,23,24,25,26,27,28,29,30] ?_; repeat ((first | refine ztn (h := ?_) | refine ztu (h := ?_)); try simp only [zX,zY])
          refine zte ?_
          refine zR1 31 (fun K hK => ?_)
          simp only [zG]
          go_simp
          (go_at_call 11; refine (in_any _ _ _ _).mono ?_; rw [h2.out]; rintro e w' ⟨rfl, rfl⟩)
          refine hK.out _ _ ?_ (fun hH => ?_)
          . (go_split_ands; refine ⟨?_, ?_, ?_, ?_⟩<;>assumption)
          clear hK K
          try simp only [zX,zY]
          refine ztk [32,33] ?_; repeat (refine ztn (h := ?_); try simp only [zX,zY])
          refine zte ?_
          refine zdn ?_
          go_wp2
          go_ret
          exact ⟨by rw [hF.out]; rfl, hbl.drew⟩
        . have h2 : Hid (inB b[n] 0 100000 = true) := h2'
          have hG : Hid (Qcx b (n + 1) = true) := by show _ = _; rw [Qd0 hltb, hN.out, h2']; rfl
          have hF : Hid (Qek m (n + 1) = true) := by show _ = _; rw [Qfz, hR.out, hM]; rfl
          clear h2' hM
          go_wp2
          refine wp_region_noPanic ?_
          refine wp_region_held_drew (S := (fun w' => w'.cell? ⟨w.heap.size, 1, none⟩ = some (.slice (some ⟨b1, o1, none⟩) m.length ca) /\ w'.cell? ⟨w.heap.size, 2, none⟩ = some (.slice (some ⟨b2, o2, none⟩) b.length cb) /\ w'.cell? ⟨b1, o1 + n, none⟩ = some (.int .i64 m[n]) /\ w'.cell? ⟨b2, o2 + n, none⟩ = some (.int .i64 b[n]))) (by kernel_rfl) ?_ (fun hH => ?_)
          . (refine ⟨?_, ?_, ?_, ?_⟩<;>first | assumption | (simp; done))
          refine ztk [0,1,2,3,4] ?_; repeat (refine ztn (h := ?_); try simp only [zX,zY])
          refine zte ?_
          refine zR1 5 (fun K hK => ?_)
          simp only [zG]
          go_simp
          (go_at_call 11; refine (in_any _ _ _ _).mono ?_; rw [h1.out]; rintro e w' ⟨rfl, rfl⟩)
          refine hK.out _ _ ?_ (fun hH => ?_)
          . (go_split_ands; refine ⟨?_, ?_, ?_, ?_⟩<;>assumption)
          clear hK K
          try simp only [zX,zY]
          refine ztk [6,7,8] ?_; repeat (refine ztn (h := ?_); try simp only [zX,zY])
          refine zte ?_
          refine' wpAnyH_take (i := 9) (v := _) rfl (by kernel_rfl) (by kernel_rfl) (by kernel_rfl) (fun _ _ _ h => h) (Or.inl ⟨by rfl, ?hy39⟩) (by assumption) ?rest39
          case hy39 => (intro w hSw; (try dsimp only at hSw); go_simp<;>(rw [hd.out]<;>with_reducible rfl))
          try simp only [zX,zY]
          refine ztk [10,11,12,13,14,15,16,17,18,19,20,21,22,23,24,25,26,27,28,29,30] ?_; repeat ((first | refine ztn (h := ?_) | refine ztu (h := ?_)); try simp only [zX,zY])
          refine zte ?_
          refine zR1 31 (fun K hK => ?_)
          simp only [zG]
          go_simp
          (go_at_call 11; refine (in_any _ _ _ _).mono ?_; rw [h2.out]; rintro e w' ⟨rfl, rfl⟩)
          refine hK.out _ _ ?_ (fun hH => ?_)
          . (go_split_ands; refine ⟨?_, ?_, ?_, ?_⟩<;>assumption)
          clear hK K
          try simp only [zX,zY]
          refine ztk [32,33] ?_; repeat (refine ztn (h := ?_); try simp only [zX,zY])
          refine zte ?_
          refine zdn ?_
          go_wp2
          exact ⟨⟨n + 1, by go_num, by omega, b0.out.drew, hF, hG, hbl.drew⟩, by simp [intOf]; omega⟩
      . obtain ⟨p, hpn⟩ : ∃ p, n = p + 1 := ⟨n - 1, by omega⟩
        have hpl : p < m.length := by omega
        have p1 := (hin.below hbs hbl).getInt p hpl
        have hd : Hid (decide (0 < n) = true) := decide_eq_true (by omega)
        have j0 : (0 : Int) <= (p : Int) := by omega
        have j1 : (p : Int) < (m.length : Int) := by omega
        have jw : Hid (IntKind.i64.wrap ((n : Int) - 1) = (p : Int)) := by
         show IntKind.i64.wrap ((n : Int) - 1) = (p : Int)
         rw [IntKind.wrap_i64]; omega
        have hpe : m.getD (n - 1) 0 = m[p] := by subst hpn; simp [hpl]
        by_cases h4 : m[p] < m[n]
        . have hM : Qmi m n = true := by rw [Qd8 hlt, h1', hpe]; simp [h4]
          have hg : Hid (decide (m[n] <= m[p]) = false) := decide_eq_false (by omega)
          clear h1' hz hpn h4 hpe
          cases h2' : inB b[n] 0 100000
          . have h2 : Hid (inB b[n] 0 100000 = false) := h2'
            have hF : Hid (gokB gen rows m b o = false) := gokB_no2 (Qfh hltb h2')
            clear h2' hM
            go_wp2
            refine wp_region_noPanic ?_
            refine wp_region_held_drew (S := (fun w' => w'.cell? ⟨w.heap.size, 1, none⟩ = some (.slice (some ⟨b1, o1, none⟩) m.length ca) /\ w'.cell? ⟨w.heap.size, 2, none⟩ = some (.slice (some ⟨b2, o2, none⟩) b.length cb) /\ w'.cell? ⟨b1, o1 + n, none⟩ = some (.int .i64 m[n]) /\ w'.cell? ⟨b2, o2 + n, none⟩ = some (.int .i64 b[n]) /\ w'.cell? ⟨b1, o1 + p, none⟩ = some (.int .i64 m[p]))) (by kernel_rfl) ?_ (fun hH => ?_)
            . (refine ⟨?_, ?_, ?_, ?_, ?_⟩<;>first | assumption | (simp; done))
            refine ztk [0,1,2,3,4] ?_; repeat (refine ztn (h := ?_); try simp only [zX,zY])
            refine zte ?_
            refine zR1 5 (fun K hK => ?_)
            simp only [zG]
            go_simp
            (go_at_call 11; refine (in_any _ _ _ _).mono ?_; rw [h1.out]; rintro e w' ⟨rfl, rfl⟩)
            refine hK.out _ _ ?_ (fun hH => ?_)
            . (go_split_ands; refine ⟨?_, ?_, ?_, ?_, ?_⟩<;>assumption)
            clear hK K
            try simp only [zX,zY]
            refine ztk [6,7,8] ?_; repeat (refine ztn (h := ?_); try simp only [zX,zY])
            refine zte ?_
            refine' wpAnyH_take (i := 9) (v := _) rfl (by kernel_rfl) (by kernel_rfl) (by kernel_rfl) (fun _ _ _ h => h) (Or.inl ⟨by rfl, ?hy59⟩) (by assumption) ?rest59
            case hy59 => (intro w hSw; (try dsimp only at hSw); go_simp<;>(rw [hd.out]<;>with_reducible rfl))
            try simp only [zX,zY]
            refine ztk [10,11,12,13] ?_; repeat (refine ztn (h := ?_); try simp only [zX,zY])
            refine zte ?_
            refine' wpAnyH_take (i := 14) (v := _) rfl (by kernel_rfl) (by kernel_rfl) (by kernel_rfl) (fun _ _ _ h => h) (Or.inl ⟨by rfl, ?hy64⟩) (by assumption) ?rest64
            case hy64 => (intro w hSw; (try dsimp only at hSw); go_simp<;>(rw [jw.out]<;>with_reducible rfl))
            try simp only [zX,zY]
            refine ztk [15,16,17,18,19,20,21] ?_; repeat (refine ztn (h := ?_); try simp only [zX,zY])
            refine zte ?_
            refine' wpAnyH_take (i := 22) (v := _) rfl (by kernel_rfl) (by kernel_rfl) (by kernel_rfl) (fun _ _ _ h => h) (Or.inl ⟨by rfl, ?hy72⟩) (by assumption) ?rest72
            case hy72 => (intro w hSw; (try dsimp only at hSw); go_simp<;>(rw [hg.out]<;>with_reducible rfl))
            try simp only [zX,zY]
            refine ztk [23,24,25,26,27,28,29,30] ?_; repeat (refine ztn (h := ?_); try simp only [zX,zY])
            refine zte ?_
            refine zR1 31 (fun K hK => ?_)
            simp only [zG]
            go_simp
            (go_at_call 11; refine (in_any _ _ _ _).mono ?_; rw [h2.out]; rintro e w' ⟨rfl, rfl⟩)
            refine hK.out _ _ ?_ (fun hH => ?_)
            . (go_split_ands; refine ⟨?_, ?_, ?_, ?_, ?_⟩<;>assumption)
            clear hK K
            try simp only [zX,zY]
            refine ztk [32,33] ?_; repeat (refine ztn (h := ?_); try simp only [zX,zY])
            refine zte ?_
            refine zdn ?_
            go_wp2
            go_ret
            exact ⟨by rw [hF.out]; rfl, hbl.drew⟩
          . have h2 : Hid (inB b[n] 0 100000 = true) := h2'
            have hG : Hid (Qcx b (n + 1) = true) := by show _ = _; rw [Qd0 hltb, hN.out, h2']; rfl
            have hF : Hid (Qek m (n + 1) = true) := by show _ = _; rw [Qfz, hR.out, hM]; rfl
            clear h2' hM
            go_wp2
            refine wp_region_noPanic ?_
            refine wp_region_held_drew (S := (fun w' => w'.cell? ⟨w.heap.size, 1, none⟩ = some (.slice (some ⟨b1, o1, none⟩) m.length ca) /\ w'.cell? ⟨w.heap.size, 2, none⟩ = some (.slice (some ⟨b2, o2, none⟩) b.length cb) /\ w'.cell? ⟨b1, o1 + n, none⟩ = some (.int .i64 m[n]) /\ w'.cell? ⟨b2, o2 + n, none⟩ = some (.int .i64 b[n]) /\ w'.cell? ⟨b1, o1 + p, none⟩ = some (.int .i64 m[p]))) (by kernel_rfl) ?_ (fun hH => ?_)
            . (refine ⟨?_, ?_, ?_, ?_, ?_⟩<;>first | assumption | (simp; done))
            refine ztk [0,1,2,3,4] ?_; repeat (refine ztn (h := ?_); try simp only [zX,zY])
            refine zte ?_
            refine zR1 5 (fun K hK => ?_)
            simp only [zG]
            go_simp
            (go_at_call 11; refine (in_any _ _ _ _).mono ?_; rw [h1.out]; rintro e w' ⟨rfl, rfl⟩)
            refine hK.out _ _ ?_ (fun hH => ?_)
            . (go_split_ands; refine ⟨?_, ?_, ?_, ?_, ?_⟩<;>assumption)
            clear hK K
            try simp only [zX,zY]
            refine ztk [6,7,8] ?_; repeat (refine ztn (h := ?_); try simp only [zX,zY])
            refine zte ?_
            refine' wpAnyH_take (i := 9) (v := _) rfl (by kernel_rfl) (by kernel_rfl) (by kernel_rfl) (fun _ _ _ h => h) (Or.inl ⟨by rfl, ?hy91⟩) (by assumption) ?rest91
            case hy91 => (intro w hSw; (try dsimp only at hSw); go_simp<;>(rw [hd.out]<;>with_reducible rfl))
            try simp only [zX,zY]
            refine ztk [10,11,12,13] ?_; repeat (refine ztn (h := ?_); try simp only [zX,zY])
            refine zte ?_
            refine' wpAnyH_take (i := 14) (v := _) rfl (by kernel_rfl) (by kernel_rfl) (by kernel_rfl) (fun _ _ _ h => h) (Or.inl ⟨by rfl, ?hy96⟩) (by assumption) ?rest96
            case hy96 => (intro w hSw; (try dsimp only at hSw); go_simp<;>(rw [jw.out]<;>with_reducible rfl))
            try simp only [zX,zY]
            refine ztk [15,16,17,18,19,20,21] ?_; repeat (refine ztn (h := ?_); try simp only [zX,zY])
            refine zte ?_
            refine' wpAnyH_take (i := 22) (v := _) rfl (by kernel_rfl) (by kernel_rfl) (by kernel_rfl) (fun _ _ _ h => h) (Or.inl ⟨by rfl, ?hy104⟩) (by assumption) ?rest104
            case hy104 => (intro w hSw; (try dsimp only at hSw); go_simp<;>(rw [hg.out]<;>with_reducible rfl))
            try simp only [zX,zY]
            refine ztk [23,24,25,26,27,28,29,30] ?_; repeat (refine ztn (h := ?_); try simp only [zX,zY])
            refine zte ?_
            refine zR1 31 (fun K hK => ?_)
            simp only [zG]
            go_simp
            (go_at_call 11; refine (in_any _ _ _ _).mono ?_; rw [h2.out]; rintro e w' ⟨rfl, rfl⟩)
            refine hK.out _ _ ?_ (fun hH => ?_)
            . (go_split_ands; refine ⟨?_, ?_, ?_, ?_, ?_⟩<;>assumption)
            clear hK K
            try simp only [zX,zY]
            refine ztk [32,33] ?_; repeat (refine ztn (h := ?_); try simp only [zX,zY])
            refine zte ?_
            refine zdn ?_
            go_wp2
            exact ⟨⟨n + 1, by go_num, by omega, b0.out.drew, hF, hG, hbl.drew⟩, by simp [intOf]; omega⟩
        . have hF : Hid (gokB gen rows m b o = false) := gokB_no1 (Qgp hlt (by rw [Qd8 hlt, hpe]; simp [hz, h4]))
          have hg : Hid (decide (m[n] <= m[p]) = true) := decide_eq_true (by omega)
          clear h1' hz hpn h4 hpe
          go_wp2
          refine wp_region_noPanic ?_
          refine wp_region_held_drew (S := (fun w' => w'.cell? ⟨w.heap.size, 1, none⟩ = some (.slice (some ⟨b1, o1, none⟩) m.length ca) /\ w'.cell? ⟨w.heap.size, 2, none⟩ = some (.slice (some ⟨b2, o2, none⟩) b.length cb) /\ w'.cell? ⟨b1, o1 + n, none⟩ = some (.int .i64 m[n]) /\ w'.cell? ⟨b2, o2 + n, none⟩ = some (.int .i64 b[n]) /\ w'.cell? ⟨b1, o1 + p, none⟩ = some (.int .i64 m[p]))) (by kernel_rfl) ?_ (fun hH => ?_)
          . (refine ⟨?_, ?_, ?_, ?_, ?_⟩<;>first | assumption | (simp; done))
          refine ztk [0,1,2,3,4] ?_; repeat (refine ztn (h := ?_); try simp only [zX,zY])
          refine zte ?_
          refine zR1 5 (fun K hK => ?_)
          simp only [zG]
          go_simp
          (go_at_call 11; refine (in_any _ _ _ _).mono ?_; rw [h1.out]; rintro e w' ⟨rfl, rfl⟩)
          refine hK.out _ _ ?_ (fun hH => ?_)
          . (go_split_ands; refine ⟨?_, ?_, ?_, ?_, ?_⟩<;>assumption)
          clear hK K
          try simp only [zX,zY]
          refine ztk [6,7,8] ?_; repeat (refine ztn (h := ?_); try simp only [zX,zY])
          refine zte ?_
          refine' wpAnyH_take (i := 9) (v := _) rfl (by kernel_rfl) (by kernel_rfl) (by kernel_rfl) (fun _ _ _ h => h) (Or.inl ⟨by rfl, ?hy123⟩) (by assumption) ?rest123
          case hy123 => (intro w hSw; (try dsimp only at hSw); go_simp<;>(rw [hd.out]<;>with_reducible rfl))
          try simp only [zX,zY]
          refine ztk [10,11,12,13] ?_; repeat (refine ztn (h := ?_); try simp only [zX,zY])
          refine zte ?_
          refine' wpAnyH_take (i := 14) (v := _) rfl (by kernel_rfl) (by kernel_rfl) (by kernel_rfl) (fun _ _ _ h => h) (Or.inl ⟨by rfl, ?hy128⟩) (by assumption) ?rest128
          case hy128 => (intro w hSw; (try dsimp only at hSw); go_simp<;>(rw [jw.out]<;>with_reducible rfl))
          try simp only [zX,zY]
          refine ztk [15,16,17,18,19,20,21] ?_; repeat (refine ztn (h := ?_); try simp only [zX,zY])
          refine zte ?_
          refine' wpAnyH_take (i := 22) (v := _) rfl (by kernel_rfl) (by kernel_rfl) (by kernel_rfl) (fun _ _ _ h => h) (Or.inl ⟨by rfl, ?hy136⟩) (by assumption) ?rest136
          case hy136 => (intro w hSw; (try dsimp only at hSw); go_simp<;>(rw [hg.out]<;>with_reducible rfl))
          try simp only [zX,zY]
          refine ztk [23,24,25,26,27,28,29,30,31,32,33] ?_; repeat ((first | refine ztn (h := ?_) | refine ztu (h := ?_)); try simp only [zX,zY])
          refine zte ?_
          refine zdn ?_
          go_wp2
          go_ret
          exact ⟨by rw [hF.out]; rfl, hbl.drew⟩
  . obtain rfl : n = m.length := by omega
    have hN' : Hid (Qcx b b.length = true) := by show _ = _; have := K1.out; rw [show b.length = m.length by omega]; exact hN.out
    have b0' : Hid (Blk wr w.heap.size 110 (Qa3 gen A m.length ca B b.length cb C o.length cc)) := b0
    go_wp2
    go_loopw [6] (fun i w' => ∃ (k : Nat), i = .int .i64 (k : Int) /\ k <= o.length /\ w' = wr /\ Hid (Qcx o k = true)) (fun i _ => o.length - (intOf i).toNat)
    case atStart => exact ⟨0, rfl, by omega, rfl, rfl⟩
    case round =>
     rename_i wr2 _
     obtain ⟨k, rfl, hk, rfl, hO⟩ := hrel
     by_cases hlk : k < o.length
     . obtain ⟨b3, o3, rfl, hbs3, hin3⟩ : ∃ b' o', C = some ⟨b', o', none⟩ /\ b' < w.heap.size /\ In w b' o' o := by
        rcases HC.out with h | h
        . subst h; simp at hlk
        . exact h
       have c3 := (hin3.below hbs3 hbl).getInt k hlk
       have hi0 : (0 : Int) <= (k : Int) := by omega
       have hi1 : (k : Int) < (o.length : Int) := by omega
       cases hx : inB o[k] 0 100000
       . have hF : Hid (gokB gen rows m b o = false) := gokB_no3 (Qfh hlk hx)
         go_wp2_with (go_at_call 11; refine (in_any _ _ _ _).mono ?_; rw [hx]; rintro e w' ⟨rfl, rfl⟩)
         go_ret
         exact ⟨by rw [hF.out]; rfl, hbl⟩
       . have hF : Hid (Qcx o (k + 1) = true) := by show _ = _; rw [Qd0 hlk, hO.out, hx]; rfl
         go_wp2_with (go_at_call 11; refine (in_any _ _ _ _).mono ?_; rw [hx]; rintro e w' ⟨rfl, rfl⟩)
         exact ⟨⟨k + 1, by go_num, by omega, by first | rfl | trivial, hF⟩, by simp [intOf]; omega⟩
     . obtain rfl : k = o.length := by omega
       have hF : Hid (gokB gen rows m b o = true) := by
        show _ = _
        unfold gokB
        rw [K3.out, hR.out, decide_eq_true K1.out, hN'.out, decide_eq_true K2.out, hO.out]; rfl
       go_wp2
       go_ret
       exact ⟨by rw [hF.out]; rfl, hbl⟩
end Go.Proofs.YtenhcjkkpnlbeaaGreatDoor.Gen
namespace Go.Proofs.YtenhcjkkpnlbeaaGreatDoor.Gen
open ChangeShapes WideShapes ChangeAt RowKit Joins Deep Base
def rowF (x : RC) : Bool := Items.rowB x.start x.next x.its
def makF (ro wi : Int) (x : MC) : Bool := okB x.row x.who x.epoch x.last wi x.ms && decide (x.row < ro)
def grpF (ro : Int) (x : GC) : Bool := gokB x.gen ro x.m x.b x.o
def ansF (x : An) : Bool := ansB x.code x.n x.key x.text
def behB (a b : MC) : Bool := decide (a.row < b.row) || (decide (a.row = b.row) && decide (a.who < b.who))
def Qhz (l : List MC) (i : Nat) : Bool := decide (i = 0) || behB (l.getD (i - 1) default) (l.getD i default)
def Qcz (l : List MC) (n : Nat) : Bool := (List.range n).all (Qhz l)
theorem Qfx (l : List MC) (n : Nat) : Qcz l (n + 1) = (Qcz l n && Qhz l n) := by simp [Qcz, List.range_succ]
theorem ordTo_no {l : List MC} {n : Nat} (h : n < l.length) (hx : Qhz l n = false) : Qcz l l.length = false := by
 unfold Qcz; rw [List.all_eq_false]; exact ⟨n, by simpa using h, by simp [hx]⟩
theorem ordAt_is {l : List MC} {p : Nat} (h : p + 1 < l.length) : Qhz l (p + 1) = behB (l[p]'(by omega)) l[p + 1] := by
 have h0 : p < l.length := by omega
 simp [Qhz, h, h0]
theorem Qc1 {α : Type} (f : α -> Bool) {l : List α} {n : Nat} (h : n < l.length) : (l.take (n + 1)).all f = ((l.take n).all f && f l[n]) := by
 rw [List.take_succ_eq_append_getElem h, List.all_append]; simp
theorem Qeq {α : Type} (f : α -> Bool) {l : List α} {n : Nat} (h : n < l.length) (hx : f l[n] = false) : l.all f = false := by
 rw [List.all_eq_false]; exact ⟨l[n], List.getElem_mem h, by simp [hx]⟩
def Qcy (ro wi le ke : Int) (x : KC) : Bool :=
  setB ro wi le ke && decide ((x.rs.length : Int) = ro) && x.rs.all rowF && Qcz x.ms x.ms.length && x.ms.all (makF ro wi) && decide ((x.gs.length : Int) = 2) && x.gs.all (grpF ro) && inB x.time 0 100000 && decide ((x.ds.length : Int) = 4) && Qcx x.ds x.ds.length && decide ((x.ls.length : Int) = 4) && x.ls.all ansF
structure KAsk (x : KC) : Prop where
  fit : KFit x
  rr : ∀ y ∈ x.rs, y.right
  lr : ∀ y ∈ x.ls, y.right
theorem Qh6 (x : MC) (ro wi le ke : Int) (Bs : Nat) (hl : x.ms.length <= 1048576) (w : World) (hs : Blk w Bs 24 (Qag ro wi le ke)) (hat : At w x.A x.ms) :
 Calls Tryz.prog 130 #[.agg (Qbb x.row x.who x.epoch x.last x.A x.ms.length x.cap), .pointer (some ⟨Bs, 0, none⟩)] w fun e w' => e = .returned (.bool (makF ro wi x)) /\ Below w.heap.size w w' := by
 have Hat := hidP hat
 have hne : Bs < w.heap.size := hs.lt
 obtain ⟨s0, s1, s2, s3⟩ := hs.row4
 clear hat
 obtain ⟨b, hb⟩ : ∃ b, okB x.row x.who x.epoch x.last wi x.ms = b := ⟨_, rfl⟩
 have HC : Hid (∀ W : World, Below w.heap.size w W -> Calls Tryz.prog 131 #[.agg (Qbb x.row x.who x.epoch x.last x.A x.ms.length x.cap), .int .i64 wi] W fun e w' => e = .returned (.bool b) /\ Below W.heap.size W w') := fun W g => hb ▸ implOk_is _ _ _ _ _ _ _ _ hl W (Hat.out.below g)
 have hF : Hid (makF ro wi x = (b && decide (x.row < ro))) := by show _ = _; rw [makF, hb]
 clear hb
 cases b
 all_goals
  go_enter Tryz.func130, Tryz.ntmps130
  go_wp2_with fail
  refine (HC.out _ (Qab (Below.refl _ _) _)).mono ?_
  rintro e w1 ⟨rfl, g1⟩
  have B1 : Below w.heap.size w w1 := via0 g1 (Qab (Below.refl _ _) _)
  have p1 := (Blk.new w 143 (Qbb x.row x.who x.epoch x.last x.A x.ms.length x.cap)).below g1 (by simp)
  obtain ⟨u0, u1, u2, u3, u4⟩ := p1.row5
  have q1 := p1.lt
  obtain ⟨k1, m1⟩ := Qax B1
  have z0 := (k1 _ 0 hne).trans s0
  have q2 : Bs < w1.heap.size := Nat.lt_of_lt_of_le hne B1.size
  go_wp2
  go_ret
  exact ⟨by rw [hF.out]; first | rfl | simp, B1⟩
theorem Qif (x : GC) (ro wi le ke : Int) (Bs : Nat) (hl : x.m.length <= 1048576 /\ x.b.length <= 1048576 /\ x.o.length <= 1048576) (w : World) (hs : Blk w Bs 24 (Qag ro wi le ke)) (hat : atG w x) :
 Calls Tryz.prog 133 #[.agg (Qa3 x.gen x.a1 x.m.length x.c1 x.a2 x.b.length x.c2 x.a3 x.o.length x.c3), .pointer (some ⟨Bs, 0, none⟩)] w fun e w' => e = .returned (.bool (grpF ro x)) /\ Below w.heap.size w w' := by
 have Hat := hidP hat
 have hne : Bs < w.heap.size := hs.lt
 obtain ⟨s0, s1, s2, s3⟩ := hs.row4
 clear hat
 have HC : Hid (∀ W : World, Below w.heap.size w W -> Calls Tryz.prog 134 #[.agg (Qa3 x.gen x.a1 x.m.length x.c1 x.a2 x.b.length x.c2 x.a3 x.o.length x.c3), .int .i64 ro] W fun e w' => e = .returned (.bool (grpF ro x)) /\ Below W.heap.size W w') := fun W g => Qmy _ _ _ _ _ _ _ _ _ _ _ hl W (Hat.out.below g).1 (Hat.out.below g).2.1 (Hat.out.below g).2.2
 go_enter Tryz.func133, Tryz.ntmps133
 go_wp2_with fail
 refine (HC.out _ (Qab (Below.refl _ _) _)).mono ?_
 rintro e w1 ⟨rfl, g1⟩
 go_wp2
 go_ret
 exact ⟨rfl, via0 g1 (Qab (Below.refl _ _) _)⟩
theorem Qna (A : Option Addr) (cap : Nat) (l : List RC) (hl : l.length <= 1048576) (hs : ∀ x ∈ l, x.its.length <= 1048576) (hr : ∀ x ∈ l, x.right) (w : World) (hA : At w A l) (hE : EachR w l) :
 Calls Tryz.prog 126 #[.slice A l.length cap, .func (.func 127) #[] #[]] w fun e w' => e = .returned (.bool (l.all rowF)) /\ Below w.heap.size w w' := by
 have HA := hidP hA
 have HE := hidP hE
 have Hs := hidP hs
 have Hr := hidP hr
 clear hA hE hs hr
 go_enter Tryz.func126, Tryz.ntmps126
 go_wp2
 go_loopw [9] (fun i w' => ∃ (n : Nat), i = .int .i64 (n : Int) /\ n <= l.length /\ Hid ((l.take n).all rowF = true) /\ Below w.heap.size w w') (fun i _ => l.length - (intOf i).toNat)
 case atStart => exact ⟨0, rfl, by omega, rfl, Below.refl _ _⟩
 case round =>
  obtain ⟨n, rfl, hn, hall, hbl⟩ := hrel
  by_cases hlt : n < l.length
  . obtain ⟨b, o, rfl, hbs, hIn⟩ : ∃ b o, A = some ⟨b, o, none⟩ /\ b < w.heap.size /\ In w b o l := by
     rcases HA.out with h | h
     . subst h; simp at hlt
     . exact h
    obtain ⟨c0, c1, c2⟩ := (hIn.below hbs hbl).getRC n hlt
    have HC : ∀ W : World, Below wr.heap.size wr W -> Calls Tryz.prog 127 #[.agg (Qay l[n].start l[n].next l[n].A l[n].its.length l[n].cap)] W fun e w' => e = .returned (.bool (rowF l[n])) /\ Below W.heap.size W w' := fun W g => Items.implRowOk_any _ _ _ _ _ (by have := Hs.out _ (List.getElem_mem hlt); omega) (fun y hy => ((Hr.out _ (List.getElem_mem hlt)).2.2.2 y hy).2.2.2) W (((HE.out _ (List.getElem_mem hlt)).below hbl).below g)
    have hsu := Qc1 rowF hlt
    have hno := Qeq rowF hlt
    generalize hb : rowF l[n] = bb at HC hsu hno
    have HC := hidP HC
    have Hsu := hidP hsu
    have Hno := hidP hno
    clear hb hsu hno
    cases bb
    . have HN := hidP (Hno.out rfl)
      clear Hno Hsu
      go_wp2_with fail
      refine (HC.out _ (Qab (Below.refl _ _) _)).mono ?_
      rintro e w1 ⟨rfl, g1⟩
      go_wp2
      go_ret
      exact ⟨by rw [HN.out]; rfl, via0 g1 (Qab hbl _)⟩
    . clear Hno
      go_wp2_with fail
      refine (HC.out _ (Qab (Below.refl _ _) _)).mono ?_
      rintro e w1 ⟨rfl, g1⟩
      go_wp2
      exact ⟨⟨n + 1, by go_num, by omega, by show _ = _; rw [Hsu.out, hall.out]; rfl, via0 g1 (Qab hbl _)⟩, by simp [intOf]; omega⟩
  . have e : l.take n = l := List.take_of_length_le (by omega)
    go_wp2
    go_ret
    have h := hall.out
    rw [e] at h
    exact ⟨by rw [h]; rfl, hbl⟩
theorem Qjo (ro wi le ke : Int) (Bs : Nat) (A : Option Addr) (cap : Nat) (l : List MC) (hl : l.length <= 1048576) (hs : ∀ x ∈ l, x.ms.length <= 1048576) (w : World) (hB : Blk w Bs 24 (Qag ro wi le ke)) (hA : At w A l) (hE : Each w l) :
 Calls Tryz.prog 129 #[.slice A l.length cap, .func (.func 130) #[] #[.pointer (some ⟨Bs, 0, none⟩)]] w fun e w' => e = .returned (.bool (l.all (makF ro wi))) /\ Below w.heap.size w w' := by
 have HA := hidP hA
 have HE := hidP hE
 have Hs := hidP hs
 have HB := hidP hB
 clear hA hE hs hB
 go_enter Tryz.func129, Tryz.ntmps129
 go_wp2
 go_loopw [9] (fun i w' => ∃ (n : Nat), i = .int .i64 (n : Int) /\ n <= l.length /\ Hid ((l.take n).all (makF ro wi) = true) /\ Below w.heap.size w w') (fun i _ => l.length - (intOf i).toNat)
 case atStart => exact ⟨0, rfl, by omega, rfl, Below.refl _ _⟩
 case round =>
  obtain ⟨n, rfl, hn, hall, hbl⟩ := hrel
  by_cases hlt : n < l.length
  . obtain ⟨b, o, rfl, hbs, hIn⟩ : ∃ b o, A = some ⟨b, o, none⟩ /\ b < w.heap.size /\ In w b o l := by
     rcases HA.out with h | h
     . subst h; simp at hlt
     . exact h
    obtain ⟨c0, c1, c2, c3, c4⟩ := (hIn.below hbs hbl).getMC n hlt
    have HC : ∀ W : World, Below wr.heap.size wr W -> Calls Tryz.prog 130 #[.agg (Qbb l[n].row l[n].who l[n].epoch l[n].last l[n].A l[n].ms.length l[n].cap), .pointer (some ⟨Bs, 0, none⟩)] W fun e w' => e = .returned (.bool ((makF ro wi) l[n])) /\ Below W.heap.size W w' := fun W g => Qh6 l[n] ro wi le ke Bs (Hs.out _ (List.getElem_mem hlt)) W ((HB.out.below hbl HB.out.lt).below g (Nat.lt_of_lt_of_le HB.out.lt hbl.size)) (((HE.out _ (List.getElem_mem hlt)).below hbl).below g)
    have hsu := Qc1 (makF ro wi) hlt
    have hno := Qeq (makF ro wi) hlt
    generalize hb : (makF ro wi) l[n] = bb at HC hsu hno
    have HC := hidP HC
    have Hsu := hidP hsu
    have Hno := hidP hno
    clear hb hsu hno
    cases bb
    . have HN := hidP (Hno.out rfl)
      clear Hno Hsu
      go_wp2_with fail
      refine (HC.out _ (Qab (Below.refl _ _) _)).mono ?_
      rintro e w1 ⟨rfl, g1⟩
      go_wp2
      go_ret
      exact ⟨by rw [HN.out]; rfl, via0 g1 (Qab hbl _)⟩
    . clear Hno
      go_wp2_with fail
      refine (HC.out _ (Qab (Below.refl _ _) _)).mono ?_
      rintro e w1 ⟨rfl, g1⟩
      go_wp2
      exact ⟨⟨n + 1, by go_num, by omega, by show _ = _; rw [Hsu.out, hall.out]; rfl, via0 g1 (Qab hbl _)⟩, by simp [intOf]; omega⟩
  . have e : l.take n = l := List.take_of_length_le (by omega)
    go_wp2
    go_ret
    have h := hall.out
    rw [e] at h
    exact ⟨by rw [h]; rfl, hbl⟩
theorem Qjq (ro wi le ke : Int) (Bs : Nat) (A : Option Addr) (cap : Nat) (l : List GC) (hl : l.length <= 1048576) (hs : ∀ x ∈ l, x.m.length <= 1048576 /\ x.b.length <= 1048576 /\ x.o.length <= 1048576) (w : World) (hB : Blk w Bs 24 (Qag ro wi le ke)) (hA : At w A l) (hE : EachG w l) :
 Calls Tryz.prog 132 #[.slice A l.length cap, .func (.func 133) #[] #[.pointer (some ⟨Bs, 0, none⟩)]] w fun e w' => e = .returned (.bool (l.all (grpF ro))) /\ Below w.heap.size w w' := by
 have HA := hidP hA
 have HE := hidP hE
 have Hs := hidP hs
 have HB := hidP hB
 clear hA hE hs hB
 go_enter Tryz.func132, Tryz.ntmps132
 go_wp2
 go_loopw [9] (fun i w' => ∃ (n : Nat), i = .int .i64 (n : Int) /\ n <= l.length /\ Hid ((l.take n).all (grpF ro) = true) /\ Below w.heap.size w w') (fun i _ => l.length - (intOf i).toNat)
 case atStart => exact ⟨0, rfl, by omega, rfl, Below.refl _ _⟩
 case round =>
  obtain ⟨n, rfl, hn, hall, hbl⟩ := hrel
  by_cases hlt : n < l.length
  . obtain ⟨b, o, rfl, hbs, hIn⟩ : ∃ b o, A = some ⟨b, o, none⟩ /\ b < w.heap.size /\ In w b o l := by
     rcases HA.out with h | h
     . subst h; simp at hlt
     . exact h
    obtain ⟨c0, c1, c2, c3⟩ := (hIn.below hbs hbl).getGC n hlt
    have HC : ∀ W : World, Below wr.heap.size wr W -> Calls Tryz.prog 133 #[.agg (Qa3 l[n].gen l[n].a1 l[n].m.length l[n].c1 l[n].a2 l[n].b.length l[n].c2 l[n].a3 l[n].o.length l[n].c3), .pointer (some ⟨Bs, 0, none⟩)] W fun e w' => e = .returned (.bool ((grpF ro) l[n])) /\ Below W.heap.size W w' := fun W g => Qif l[n] ro wi le ke Bs (Hs.out _ (List.getElem_mem hlt)) W ((HB.out.below hbl HB.out.lt).below g (Nat.lt_of_lt_of_le HB.out.lt hbl.size)) (((HE.out _ (List.getElem_mem hlt)).below hbl).below g)
    have hsu := Qc1 (grpF ro) hlt
    have hno := Qeq (grpF ro) hlt
    generalize hb : (grpF ro) l[n] = bb at HC hsu hno
    have HC := hidP HC
    have Hsu := hidP hsu
    have Hno := hidP hno
    clear hb hsu hno
    cases bb
    . have HN := hidP (Hno.out rfl)
      clear Hno Hsu
      go_wp2_with fail
      refine (HC.out _ (Qab (Below.refl _ _) _)).mono ?_
      rintro e w1 ⟨rfl, g1⟩
      go_wp2
      go_ret
      exact ⟨by rw [HN.out]; rfl, via0 g1 (Qab hbl _)⟩
    . clear Hno
      go_wp2_with fail
      refine (HC.out _ (Qab (Below.refl _ _) _)).mono ?_
      rintro e w1 ⟨rfl, g1⟩
      go_wp2
      exact ⟨⟨n + 1, by go_num, by omega, by show _ = _; rw [Hsu.out, hall.out]; rfl, via0 g1 (Qab hbl _)⟩, by simp [intOf]; omega⟩
  . have e : l.take n = l := List.take_of_length_le (by omega)
    go_wp2
    go_ret
    have h := hall.out
    rw [e] at h
    exact ⟨by rw [h]; rfl, hbl⟩
theorem Qii (A : Option Addr) (cap : Nat) (l : List An) (hl : l.length <= 1048576) (hr : ∀ x ∈ l, x.right) (w : World) (hA : At w A l) :
 Calls Tryz.prog 136 #[.slice A l.length cap, .func (.func 94) #[] #[]] w fun e w' => e = .returned (.bool (l.all ansF)) /\ Below w.heap.size w w' := by
 have HA := hidP hA
 have Hr := hidP hr
 clear hA hr
 go_enter Tryz.func136, Tryz.ntmps136
 go_wp2
 go_loopw [9] (fun i w' => ∃ (n : Nat), i = .int .i64 (n : Int) /\ n <= l.length /\ Hid ((l.take n).all ansF = true) /\ Below w.heap.size w w') (fun i _ => l.length - (intOf i).toNat)
 case atStart => exact ⟨0, rfl, by omega, rfl, Below.refl _ _⟩
 case round =>
  obtain ⟨n, rfl, hn, hall, hbl⟩ := hrel
  by_cases hlt : n < l.length
  . obtain ⟨b, o, rfl, hbs, hIn⟩ : ∃ b o, A = some ⟨b, o, none⟩ /\ b < w.heap.size /\ In w b o l := by
     rcases HA.out with h | h
     . subst h; simp at hlt
     . exact h
    obtain ⟨c0, c1, c2, c3⟩ := (hIn.below hbs hbl).getAn n hlt
    have HC : ∀ W : World, Below wr.heap.size wr W -> Calls Tryz.prog 94 #[.agg (Qg7 l[n].code l[n].n l[n].key l[n].text)] W fun e w' => e = .returned (.bool (ansF l[n])) /\ Below W.heap.size W w' := fun W g => Qe2 _ _ _ _ (Hr.out _ (List.getElem_mem hlt)).2.2.1 (Hr.out _ (List.getElem_mem hlt)).2.2.2 W
    have hsu := Qc1 ansF hlt
    have hno := Qeq ansF hlt
    generalize hb : ansF l[n] = bb at HC hsu hno
    have HC := hidP HC
    have Hsu := hidP hsu
    have Hno := hidP hno
    clear hb hsu hno
    cases bb
    . have HN := hidP (Hno.out rfl)
      clear Hno Hsu
      go_wp2_with fail
      refine (HC.out _ (Qab (Below.refl _ _) _)).mono ?_
      rintro e w1 ⟨rfl, g1⟩
      go_wp2
      go_ret
      exact ⟨by rw [HN.out]; rfl, via0 g1 (Qab hbl _)⟩
    . clear Hno
      go_wp2_with fail
      refine (HC.out _ (Qab (Below.refl _ _) _)).mono ?_
      rintro e w1 ⟨rfl, g1⟩
      go_wp2
      exact ⟨⟨n + 1, by go_num, by omega, by show _ = _; rw [Hsu.out, hall.out]; rfl, via0 g1 (Qab hbl _)⟩, by simp [intOf]; omega⟩
  . have e : l.take n = l := List.take_of_length_le (by omega)
    go_wp2
    go_ret
    have h := hall.out
    rw [e] at h
    exact ⟨by rw [h]; rfl, hbl⟩
theorem Qgq (row who epoch last : Int) (a : Option Addr) (n c : Nat) (w : World) :
 Calls Tryz.prog 169 #[.agg (Qbb row who epoch last a n c)] w fun e w' => e = .returned (.agg (Qbt row who 0)) /\ Below w.heap.size w w' := by
 go_enter Tryz.func169, Tryz.ntmps169
 go_wp2
 exact bodyPost_ret (v := .agg (Qbt row who 0)) (by simp [results, Tryz.results169, go_sem]) rfl
  ⟨rfl, by repeat (first | exact Below.refl _ _ | refine Below.drew ?_ | refine Below.alloc ?_ (by simp<;>omega) _ | refine Below.setCell ?_ (by simp<;>omega) _)⟩
theorem Qlh (y z : MC) (w : World) :
 Calls Tryz.prog 170 #[.agg (Qbt y.row y.who 0), .agg (Qbt z.row z.who 0)] w fun e w' => e = .returned (.bool (behB z y)) /\ Below w.heap.size w w' := by
 by_cases h : y.row = z.row
 . have hF : Hid (behB z y = decide (z.who < y.who)) := by show _ = _; simp [behB, h]
   have h1 : (y.row != z.row) = false := by simp [h]
   go_enter Tryz.func170, Tryz.ntmps170
   go_wp2
   go_ret
   exact ⟨by rw [hF.out]; first | rfl | simp, by repeat (first | exact Below.refl _ _ | assumption | refine via0 (by assumption) ?_ | refine Below.drew ?_ | refine Qab ?_ _)⟩
 . have hF : Hid (behB z y = decide (z.row < y.row)) := by show _ = _; simp [behB, Ne.symm h]
   have h1 : (y.row != z.row) = true := by simp [h]
   go_enter Tryz.func170, Tryz.ntmps170
   go_wp2
   go_ret
   exact ⟨by rw [hF.out]; first | rfl | simp, by repeat (first | exact Below.refl _ _ | assumption | refine via0 (by assumption) ?_ | refine Below.drew ?_ | refine Qab ?_ _)⟩
theorem Qli (A : Option Addr) (cap : Nat) (l : List MC) (hl : l.length <= 1048576) (w : World) (hA : At w A l) :
 Calls Tryz.prog 128 #[.slice A l.length cap] w fun e w' => e = .returned (.bool (Qcz l l.length)) /\ Below w.heap.size w w' := by
 have HA := hidP hA
 clear hA
 go_enter Tryz.func128, Tryz.ntmps128
 go_wp2
 go_loopw [3] (fun i w' => ∃ (n : Nat), i = .int .i64 (n : Int) /\ 1 <= n /\ (n <= l.length ∨ n = 1) /\ Hid (Qcz l n = true) /\ Below w.heap.size w w') (fun i _ => l.length - (intOf i).toNat)
 case atStart => exact ⟨1, rfl, by omega, .inr rfl, by show _ = _; simp [Qcz, Qhz, List.range_succ], Below.refl _ _⟩
 case round =>
  obtain ⟨n, rfl, hn1, hn, hall, hbl⟩ := hrel
  by_cases hlt : n < l.length
  . obtain ⟨b, o, rfl, hbs, hIn⟩ : ∃ b o, A = some ⟨b, o, none⟩ /\ b < w.heap.size /\ In w b o l := by
     rcases HA.out with h | h
     . subst h; simp at hlt
     . exact h
    obtain ⟨p, hpn⟩ : ∃ p, n = p + 1 := ⟨n - 1, by omega⟩
    have hpl : p < l.length := by omega
    obtain ⟨c0, c1, c2, c3, c4⟩ := (hIn.below hbs hbl).getMC n hlt
    obtain ⟨d0, d1, d2, d3, d4⟩ := (hIn.below hbs hbl).getMC p hpl
    have hb1 : b < wr.heap.size := Nat.lt_of_lt_of_le hbs hbl.size
    have hi0 : (0 : Int) <= (n : Int) := by omega
    have hi1 : (n : Int) < (l.length : Int) := by omega
    have j0 : (0 : Int) <= (p : Int) := by omega
    have j1 : (p : Int) < (l.length : Int) := by omega
    have jw : Hid (IntKind.i64.wrap ((n : Int) - 1) = (p : Int)) := by
     show IntKind.i64.wrap ((n : Int) - 1) = (p : Int)
     rw [IntKind.wrap_i64]; omega
    have hsu := Qfx l n
    have hno := ordTo_no hlt
    have hoa : Qhz l n = behB l[p] l[n] := by subst hpn; exact ordAt_is hlt
    rw [hoa] at hsu hno
    clear hoa hpn
    generalize l[n] = y at c0 c1 c2 c3 c4 hsu hno
    generalize l[p] = z at d0 d1 d2 d3 d4 hsu hno
    have HC : ∀ W : World, Calls Tryz.prog 170 #[.agg (Qbt y.row y.who 0), .agg (Qbt z.row z.who 0)] W fun e w' => e = .returned (.bool (behB z y)) /\ Below W.heap.size W w' := fun W => Qlh y z W
    generalize behB z y = bb at HC hsu hno
    have HC := hidP HC
    have Hsu := hidP hsu
    have Hno := hidP hno
    clear hsu hno
    cases bb
    . have HN := hidP (Hno.out rfl)
      clear Hno Hsu
      go_wp2_with fail
      refine wp_region_noPanic ?_
      refine wp_region_held_drew (S := (fun w' => w'.cell? ⟨b, o + n * 5, none⟩ = some (.int .i64 y.row) /\ w'.cell? ⟨b, o + n * 5 + 1, none⟩ = some (.int .i64 y.who) /\ w'.cell? ⟨b, o + n * 5 + 2, none⟩ = some (.int .i64 y.epoch) /\ w'.cell? ⟨b, o + n * 5 + 3, none⟩ = some (.int .i64 y.last) /\ w'.cell? ⟨b, o + n * 5 + 4, none⟩ = some (.slice y.A y.ms.length y.cap) /\ w'.cell? ⟨b, o + p * 5, none⟩ = some (.int .i64 z.row) /\ w'.cell? ⟨b, o + p * 5 + 1, none⟩ = some (.int .i64 z.who) /\ w'.cell? ⟨b, o + p * 5 + 2, none⟩ = some (.int .i64 z.epoch) /\ w'.cell? ⟨b, o + p * 5 + 3, none⟩ = some (.int .i64 z.last) /\ w'.cell? ⟨b, o + p * 5 + 4, none⟩ = some (.slice z.A z.ms.length z.cap))) (by kernel_rfl) ?_ (fun hH => ?_)
      . (refine ⟨?_, ?_, ?_, ?_, ?_, ?_, ?_, ?_, ?_, ?_⟩<;>assumption)
      refine ztk [0,1,2,3,5,6] ?_; repeat (refine ztn (h := ?_); try simp only [zX,zY])
      refine zte ?_
      refine' wpAnyH_take (i := 7) (v := _) rfl (by kernel_rfl) (by kernel_rfl) (by kernel_rfl) (fun _ _ _ h => h) (Or.inl ⟨by rfl, ?hy7⟩) (by assumption) ?rest7
      case hy7 => (intro w hSw; (try dsimp only at hSw); go_simp<;>(rw [jw.out]<;>with_reducible rfl))
      try simp only [zX,zY]
      refine ztk [8,9] ?_; repeat (refine ztn (h := ?_); try simp only [zX,zY])
      refine zte ?_
      refine zR1 4 (fun K hK => ?_)
      simp only [zG]
      go_simp
      (go_at_call 169; refine (Qgq _ _ _ _ _ _ _ _).mono ?_; rintro e w1 ⟨rfl, g1⟩; obtain ⟨k1, m1⟩ := Qax g1; have HB1 := hidP g1)
      refine hK.out _ _ ?_ (fun hH => ?_)
      . (go_split_ands; refine ⟨?_, ?_, ?_, ?_, ?_, ?_, ?_, ?_, ?_, ?_⟩<;>exact (k1 _ _ hb1).trans (by assumption))
      clear hK K
      try simp only [zX,zY]
      refine zR1 10 (fun K hK => ?_)
      simp only [zG]
      go_simp
      (go_at_call 169; refine (Qgq _ _ _ _ _ _ _ _).mono ?_; rintro e w2 ⟨rfl, g2⟩; obtain ⟨k2, m2⟩ := Qax g2; have HB2 := hidP g2; have hb2 := Nat.lt_of_lt_of_le hb1 HB1.out.size)
      refine hK.out _ _ ?_ (fun hH => ?_)
      . (go_split_ands; refine ⟨?_, ?_, ?_, ?_, ?_, ?_, ?_, ?_, ?_, ?_⟩<;>exact (k2 _ _ hb2).trans (by assumption))
      clear hK K
      try simp only [zX,zY]
      refine zR1 11 (fun K hK => ?_)
      simp only [zG]
      go_simp
      (go_at_call 170; refine (HC.out _).mono ?_; rintro e w3 ⟨rfl, g3⟩; obtain ⟨k3, m3⟩ := Qax g3; have HB3 := hidP g3; have hb3 := Nat.lt_of_lt_of_le hb2 HB2.out.size)
      refine hK.out _ _ ?_ (fun hH => ?_)
      . (go_split_ands; refine ⟨?_, ?_, ?_, ?_, ?_, ?_, ?_, ?_, ?_, ?_⟩<;>exact (k3 _ _ hb3).trans (by assumption))
      clear hK K
      try simp only [zX,zY]
      refine zt1 12 ?_; refine ztn (h := ?_); try simp only [zX,zY]
      refine zte ?_
      refine zdn ?_
      go_wp2
      go_ret
      exact ⟨by rw [HN.out]; rfl, via0 HB3.out (via0 HB2.out (via0 HB1.out hbl.drew))⟩
    . clear Hno
      go_wp2_with fail
      refine wp_region_noPanic ?_
      refine wp_region_held_drew (S := (fun w' => w'.cell? ⟨b, o + n * 5, none⟩ = some (.int .i64 y.row) /\ w'.cell? ⟨b, o + n * 5 + 1, none⟩ = some (.int .i64 y.who) /\ w'.cell? ⟨b, o + n * 5 + 2, none⟩ = some (.int .i64 y.epoch) /\ w'.cell? ⟨b, o + n * 5 + 3, none⟩ = some (.int .i64 y.last) /\ w'.cell? ⟨b, o + n * 5 + 4, none⟩ = some (.slice y.A y.ms.length y.cap) /\ w'.cell? ⟨b, o + p * 5, none⟩ = some (.int .i64 z.row) /\ w'.cell? ⟨b, o + p * 5 + 1, none⟩ = some (.int .i64 z.who) /\ w'.cell? ⟨b, o + p * 5 + 2, none⟩ = some (.int .i64 z.epoch) /\ w'.cell? ⟨b, o + p * 5 + 3, none⟩ = some (.int .i64 z.last) /\ w'.cell? ⟨b, o + p * 5 + 4, none⟩ = some (.slice z.A z.ms.length z.cap))) (by kernel_rfl) ?_ (fun hH => ?_)
      . (refine ⟨?_, ?_, ?_, ?_, ?_, ?_, ?_, ?_, ?_, ?_⟩<;>assumption)
      refine ztk [0,1,2,3,5,6] ?_; repeat (refine ztn (h := ?_); try simp only [zX,zY])
      refine zte ?_
      refine' wpAnyH_take (i := 7) (v := _) rfl (by kernel_rfl) (by kernel_rfl) (by kernel_rfl) (fun _ _ _ h => h) (Or.inl ⟨by rfl, ?hz7⟩) (by assumption) ?rst7
      case hz7 => (intro w hSw; (try dsimp only at hSw); go_simp<;>(rw [jw.out]<;>with_reducible rfl))
      try simp only [zX,zY]
      refine ztk [8,9] ?_; repeat (refine ztn (h := ?_); try simp only [zX,zY])
      refine zte ?_
      refine zR1 4 (fun K hK => ?_)
      simp only [zG]
      go_simp
      (go_at_call 169; refine (Qgq _ _ _ _ _ _ _ _).mono ?_; rintro e w1 ⟨rfl, g1⟩; obtain ⟨k1, m1⟩ := Qax g1; have HB1 := hidP g1)
      refine hK.out _ _ ?_ (fun hH => ?_)
      . (go_split_ands; refine ⟨?_, ?_, ?_, ?_, ?_, ?_, ?_, ?_, ?_, ?_⟩<;>exact (k1 _ _ hb1).trans (by assumption))
      clear hK K
      try simp only [zX,zY]
      refine zR1 10 (fun K hK => ?_)
      simp only [zG]
      go_simp
      (go_at_call 169; refine (Qgq _ _ _ _ _ _ _ _).mono ?_; rintro e w2 ⟨rfl, g2⟩; obtain ⟨k2, m2⟩ := Qax g2; have HB2 := hidP g2; have hb2 := Nat.lt_of_lt_of_le hb1 HB1.out.size)
      refine hK.out _ _ ?_ (fun hH => ?_)
      . (go_split_ands; refine ⟨?_, ?_, ?_, ?_, ?_, ?_, ?_, ?_, ?_, ?_⟩<;>exact (k2 _ _ hb2).trans (by assumption))
      clear hK K
      try simp only [zX,zY]
      refine zR1 11 (fun K hK => ?_)
      simp only [zG]
      go_simp
      (go_at_call 170; refine (HC.out _).mono ?_; rintro e w3 ⟨rfl, g3⟩; obtain ⟨k3, m3⟩ := Qax g3; have HB3 := hidP g3; have hb3 := Nat.lt_of_lt_of_le hb2 HB2.out.size)
      refine hK.out _ _ ?_ (fun hH => ?_)
      . (go_split_ands; refine ⟨?_, ?_, ?_, ?_, ?_, ?_, ?_, ?_, ?_, ?_⟩<;>exact (k3 _ _ hb3).trans (by assumption))
      clear hK K
      try simp only [zX,zY]
      refine zt1 12 ?_; refine ztn (h := ?_); try simp only [zX,zY]
      refine zte ?_
      refine zdn ?_
      go_wp2
      exact ⟨⟨n + 1, by go_num, by omega, .inl (by omega), by show _ = _; rw [Hsu.out, hall.out]; rfl, via0 HB3.out (via0 HB2.out (via0 HB1.out hbl.drew))⟩, by simp [intOf]; omega⟩
  . have e : Qcz l l.length = true := by
     rcases hn with h | h
     . have : n = l.length := by omega
       rw [← this]; exact hall.out
     . subst h
       by_cases h0 : l.length = 0
       . rw [h0]; rfl
       . have : l.length = 1 := by omega
         rw [this]; exact hall.out
    have E := hidP e
    clear e
    go_wp2
    go_ret
    exact ⟨by rw [E.out]; rfl, hbl⟩
end Go.Proofs.YtenhcjkkpnlbeaaGreatDoor.Gen
namespace Go.Proofs.YtenhcjkkpnlbeaaGreatDoor.Gen
open ChangeShapes WideShapes ChangeAt RowKit Joins Deep Base
def rowFp (p : PR) : Bool := Items.rowB p.start p.next p.its
def makFp (ro wi : Int) (p : PM) : Bool := okB p.row p.who p.epoch p.last wi p.ms && decide (p.row < ro)
def grpFp (ro : Int) (p : PG) : Bool := gokB p.gen ro p.m p.b p.o
def behP (a b : PM) : Bool := decide (a.row < b.row) || (decide (a.row = b.row) && decide (a.who < b.who))
def ordP (l : List PM) (i : Nat) : Bool := decide (i = 0) || behP (l.getD (i - 1) (default : MC).p) (l.getD i (default : MC).p)
theorem all_p {α β : Type} (p : α -> β) (f : β -> Bool) (l : List α) : l.all (fun x => f (p x)) = (l.map p).all f := by rw [List.all_map]; rfl
theorem getD_p {α β : Type} (p : α -> β) (l : List α) (i : Nat) (d : α) : p (l.getD i d) = (l.map p).getD i (p d) := by
 simp only [List.getD_eq_getElem?_getD, List.getElem?_map]
 cases l[i]?<;>rfl
theorem ordTo_p (l : List MC) (n : Nat) : Qcz l n = (List.range n).all (ordP (l.map MC.p)) := by
 unfold Qcz
 congr 1
 funext i
 simp only [Qhz, ordP, ← getD_p]
 rfl
theorem Qc0 {α β : Type} (p : α -> β) (c : β -> Nat) (l : List α) : Qak (fun x => c (p x)) l = Qak c (l.map p) := by simp [Qak, List.map_map, Function.comp_def]
theorem mem_p {α β : Type} {p : α -> β} {Q : β -> Prop} {l m : List α} (h : m.map p = l.map p) (hl : ∀ x ∈ l, Q (p x)) : ∀ x ∈ m, Q (p x) := fun x hx => by
 have : p x ∈ l.map p := h ▸ List.mem_map_of_mem hx
 obtain ⟨y, hy, e⟩ := List.mem_map.1 this
 rw [← e]; exact hl y hy
theorem keepB_p {x y : KC} (h : y.p = x.p) (ro wi le ke : Int) : Qcy ro wi le ke y = Qcy ro wi le ke x := by
 obtain ⟨l1, l2, l3, l4, l5, l6⟩ := KC.p_len h
 simp only [KC.p, PK.mk.injEq] at h
 obtain ⟨h1, h2, h3, _, _, _⟩ := h
 have e1 : y.rs.all rowF = x.rs.all rowF := (all_p RC.p rowFp y.rs).trans (by rw [h1]; exact (all_p RC.p rowFp x.rs).symm)
 have e2 : y.ms.all (makF ro wi) = x.ms.all (makF ro wi) := (all_p MC.p (makFp ro wi) y.ms).trans (by rw [h2]; exact (all_p MC.p (makFp ro wi) x.ms).symm)
 have e3 : y.gs.all (grpF ro) = x.gs.all (grpF ro) := (all_p GC.p (grpFp ro) y.gs).trans (by rw [h3]; exact (all_p GC.p (grpFp ro) x.gs).symm)
 have e4 : Qcz y.ms y.ms.length = Qcz x.ms x.ms.length := by rw [ordTo_p, ordTo_p, l2, h2]
 unfold Qcy
 rw [e1, e2, e3, e4, l1, l3, l4, l5, l6]
theorem fit_p {x y : KC} (h : y.p = x.p) (f : KFit x) : KFit y := by
 obtain ⟨l1, l2, l3, l4, l5, l6⟩ := KC.p_len h
 simp only [KC.p, PK.mk.injEq] at h
 obtain ⟨h1, h2, h3, _, _, _⟩ := h
 have c1 : Qak cR y.rs = Qak cR x.rs := (Qc0 RC.p (fun p => 2 + p.its.length * 5) y.rs).trans (by rw [h1]; exact (Qc0 RC.p (fun p => 2 + p.its.length * 5) x.rs).symm)
 have c2 : Qak cM y.ms = Qak cM x.ms := (Qc0 MC.p (fun p => 4 + p.ms.length * 2) y.ms).trans (by rw [h2]; exact (Qc0 MC.p (fun p => 4 + p.ms.length * 2) x.ms).symm)
 have c3 : Qak cG y.gs = Qak cG x.gs := (Qc0 GC.p (fun p => 1 + p.m.length + p.b.length + p.o.length) y.gs).trans (by rw [h3]; exact (Qc0 GC.p (fun p => 1 + p.m.length + p.b.length + p.o.length) x.gs).symm)
 exact ⟨l1 ▸ f.rl, l2 ▸ f.ml, l3 ▸ f.gl, l5 ▸ f.dl, l6 ▸ f.ll, mem_p (p := RC.p) (Q := fun p => p.its.length <= 1048576) h1 f.ri, mem_p (p := MC.p) (Q := fun p => p.ms.length <= 1048576) h2 f.mi, mem_p (p := GC.p) (Q := fun p => p.m.length <= 1048576 /\ p.b.length <= 1048576 /\ p.o.length <= 1048576) h3 f.gi, c1 ▸ f.rc, c2 ▸ f.mc, c3 ▸ f.gc⟩
end Go.Proofs.YtenhcjkkpnlbeaaGreatDoor.Gen
namespace Go.Proofs.YtenhcjkkpnlbeaaGreatDoor.Gen
open ChangeShapes WideShapes ChangeAt RowKit Joins Deep Base
theorem POwn.mono {W : World} {p : PC} {S T : Nat -> Prop} (h : POwn W p S) (s : ∀ b, S b -> T b) : POwn W p T := by
 obtain ⟨c, h⟩ := h
 exact ⟨c, h.l.mono (fun b hb => ⟨s b hb.1, hb.2⟩), h.x.mono (fun b hb => ⟨s b hb.1, hb.2⟩), h.v.mono (fun b hb => ⟨s b hb.1, hb.2⟩), h.n.mono (fun b hb => ⟨s b hb.1, hb.2⟩), h.q.mono (fun b hb => ⟨s b hb.1, hb.2⟩), h.y.mono (fun b hb => ⟨s b hb.1, hb.2⟩), h.d.mono (fun b hb => ⟨s b hb.1, hb.2⟩), h.h.mono (fun b hb => ⟨s b hb.1, hb.2⟩)⟩
theorem Qgr {a b : List RpC} (h : a.map RpC.p = b.map RpC.p) : a.length = b.length := by have := congrArg List.length h; simpa using this
theorem held_fit {a b : List RpC} {N : Nat} (h : a.map RpC.p = b.map RpC.p) (hb : ∀ z ∈ b, z.l.length <= N) : ∀ z ∈ a, z.l.length <= N := by
 intro z hz
 have h1 : z.p ∈ b.map RpC.p := h ▸ List.mem_map_of_mem hz
 obtain ⟨y, hy, e⟩ := List.mem_map.1 h1
 have : y.l = z.l := congrArg RpP.l e
 rw [← this]; exact hb y hy
theorem kct_p {x y : KC} (h : y.p = x.p) : kct y = kct x := by
 obtain ⟨l1, l2, l3, l4, l5, l6⟩ := KC.p_len h
 simp only [KC.p, PK.mk.injEq] at h
 obtain ⟨h1, h2, h3, _, _, _⟩ := h
 have c1 : Qak cR y.rs = Qak cR x.rs := (Qc0 RC.p (fun p => 2 + p.its.length * 5) y.rs).trans (by rw [h1]; exact (Qc0 RC.p (fun p => 2 + p.its.length * 5) x.rs).symm)
 have c2 : Qak cM y.ms = Qak cM x.ms := (Qc0 MC.p (fun p => 4 + p.ms.length * 2) y.ms).trans (by rw [h2]; exact (Qc0 MC.p (fun p => 4 + p.ms.length * 2) x.ms).symm)
 have c3 : Qak cG y.gs = Qak cG x.gs := (Qc0 GC.p (fun p => 1 + p.m.length + p.b.length + p.o.length) y.gs).trans (by rw [h3]; exact (Qc0 GC.p (fun p => 1 + p.m.length + p.b.length + p.o.length) x.gs).symm)
 unfold kct
 rw [c1, c2, c3, l5, l6]
theorem cnt_p {a b : List RpC} (h : a.map RpC.p = b.map RpC.p) : Qak (fun z : RpC => z.l.length) a = Qak (fun z : RpC => z.l.length) b :=
 (Qc0 RpC.p (fun p => p.l.length) a).trans (by rw [h]; exact (Qc0 RpC.p (fun p => p.l.length) b).symm)
theorem PFit.same {q p : PC} (f : PFit p) (s : SameP q p) : PFit q :=
 ⟨s.l ▸ f.ll, fit_p s.x f.xf, s.vs ▸ f.vl, s.ns ▸ f.nl, s.ps ▸ f.pl, fit_p s.y f.yf, s.db ▸ f.dl, by rw [Qgr s.hs]; exact f.hl, held_fit s.hs f.hi, by rw [s.l, kct_p s.x, s.vs, s.ns, s.ps, kct_p s.y, s.db, Qgr s.hs, cnt_p s.hs]; exact f.tot⟩
theorem eqQ {a b p : PC} (hf : PFit p) (sa : SameP a p) (sb : SameP b p) {W : World} (ha : PAt W a) (hb : PAt W b) : Calls Tryz.prog 51 #[.agg (Qam a), .agg (Qam b)] W fun e w' => e = .returned (.bool true) /\ Below W.heap.size W w' := by
 have fa := hf.same sa
 have s := sb.trans sa.symm
 have h := Qm2 a.id a.te a.vo a.base a.bt a.role a.com a.su a.A b.A a.vA b.vA a.nA b.nA a.pA b.pA a.dA b.dA a.hA b.hA a.cap b.cap a.vc b.vc a.nc b.nc a.pc b.pc a.dc b.dc a.hc b.hc a.l a.vs a.ns a.ps a.db a.hs b.hs a.x b.x a.y b.y
  (by have := fa.ll; omega) (by have := fa.vl; omega) (by have := fa.nl; omega) (by have := fa.pl; omega) (by have := fa.dl; omega) (by have := fa.hl; omega) (fun z hz => by have := fa.hi z hz; omega)
  fa.xf s.x fa.yf s.y s.hs W ha.la (s.l ▸ hb.la) ha.xa hb.xa ha.va (s.vs ▸ hb.va) ha.na (s.ns ▸ hb.na) ha.pa (s.ps ▸ hb.pa) ha.ya hb.ya ha.da (s.db ▸ hb.da) ha.ha ha.he hb.ha hb.he
 have e : Qam b = Qam { b with id := a.id, te := a.te, vo := a.vo, base := a.base, bt := a.bt, l := a.l, role := a.role, vs := a.vs, ns := a.ns, ps := a.ps, com := a.com, db := a.db, su := a.su } := by
  simp only [Qam, Qb7, Qdg, s.id, s.te, s.vo, s.base, s.bt, s.l, s.role, s.vs, s.ns, s.ps, s.com, s.db, s.su]
 rw [e]
 have hl := Qgr s.hs
 simp only [Qam, Qb7, Qdg, hl]
 exact h
end Go.Proofs.YtenhcjkkpnlbeaaGreatDoor.Gen
