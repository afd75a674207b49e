/-
  MakerOk of the specification and of the program at this seat: they answer alike. No condition but that there are at most 1048576 marks.
-/
import Derived.Test.YtkmkldjipihceaaGreatMakOk
set_option linter.unusedVariables false
set_option linter.unusedSimpArgs false
set_option maxRecDepth 100000
set_option maxHeartbeats 8000000
set_option maxRecDepth 100000
set_option maxHeartbeats 8000000
namespace Go.Proofs.YtkmkldjipihceaaGreat.Gen
open ChangeShapes WideShapes ChangeAt RowKit Joins Deep Base
theorem specOk_is (row who epoch last window : Int) (A : Option Addr) (cap : Nat) (l : List Mk) (hl : l.length <= 1048576) (w : World) (hA : At w A l) :
 Calls Tryz.prog 140 #[.agg (Qa6 row who epoch last A l.length cap), .int .i64 window] w fun e w' => e = .returned (.bool (okB row who epoch last window l)) /\ Below w.heap.size w w' := by
 have HA : Hid (At w A l) := hA
 clear hA
 go_enter Tryz.func140, Tryz.ntmps140
 go_wp2
 have P0 := Blk.new w 221 (Qa6 row who epoch last A l.length cap)
 go_loopw [5] (fun i w' => ∃ (n : Nat), i = .int .i64 (n : Int) /\ n <= l.length /\ Hid (Blk w' w.heap.size 221 (Qa6 row who epoch last A l.length cap)) /\ Hid (Qba last l n = true) /\ Below w.heap.size w w') (fun i _ => l.length - (intOf i).toNat)
 case atStart => exact ⟨0, rfl, by omega, P0, rfl, by repeat (first | exact Below.refl _ _ | assumption | refine via0 (by assumption) ?_ | refine Below.drew ?_ | refine Qab ?_ _)⟩
 case round =>
  obtain ⟨n, rfl, hn, b0, hR, hbl⟩ := hrel
  obtain ⟨u0, u1, u2, u3, u4⟩ := b0.out.row5
  have hszw := b0.out.lt
  by_cases hlt : n < l.length
  . obtain ⟨b, o, rfl, hbs, hin⟩ : ∃ b o, A = some ⟨b, o, none⟩ /\ b < w.heap.size /\ In w b o l := by
     rcases HA.out with h | h
     . subst h; simp at hlt
     . exact h
    obtain ⟨c0, c1⟩ := (hin.below hbs hbl).getMk n hlt
    have hi0 : (0 : Int) <= (n : Int) := by omega
    have hi1 : (n : Int) < (l.length : Int) := by omega
    cases h1' : inB l[n].off 0 100000
    . have h1 : Hid (inB l[n].off 0 100000 = false) := h1'
      have hF : Hid (okB row who epoch last window l = false) := okB_no (Qb7 hlt (by rw [Qbk hlt]; rw [h1']; simp))
      clear h1'
      go_wp2
      refine wp_region_noPanic ?_
      refine wp_region_held_drew (S := (fun w' => w'.cell? ⟨w.heap.size, 3, none⟩ = some (.int .i64 last) /\ w'.cell? ⟨w.heap.size, 4, none⟩ = some (.slice (some ⟨b, o, none⟩) l.length cap) /\ w'.cell? ⟨b, o + n * 2, none⟩ = some (.int .i64 l[n].seq) /\ w'.cell? ⟨b, o + n * 2 + 1, none⟩ = some (.int .i64 l[n].off))) (by kernel_rfl) ?_ (fun hH => ?_)
      . (refine ⟨?_, ?_, ?_, ?_⟩<;>first | assumption | (simp; done))
      refine ztk [0,1,2,3,4,5] ?_; repeat (refine ztn (h := ?_); try simp only [zX,zY])
      refine zte ?_
      refine zR1 6 (fun K hK => ?_)
      simp only [zG]
      go_simp
      (go_at_call 32; refine (in_any _ _ _ _).mono ?_; rw [h1.out]; rintro e w' ⟨rfl, rfl⟩)
      refine hK.out _ _ ?_ (fun hH => ?_)
      . (go_split_ands; refine ⟨?_, ?_, ?_, ?_⟩<;>assumption)
      clear hK K
      try simp only [zX,zY]
      refine ztk [7,8,9,10,11,12,13,14,15,16,17,18,19,20,21,22,23,24,25,26,27,28,29,30,31,32,33,34,35,36,37,38,39,40,41,42,43,44,45] ?_; repeat ((first | refine ztn (h := ?_) | refine ztu (h := ?_)); try simp only [zX,zY])
      refine zte ?_
      refine zdn ?_
      go_wp2
      go_ret
      exact ⟨by rw [hF.out]; rfl, hbl.drew⟩
    . have h1 : Hid (inB l[n].off 0 100000 = true) := h1'
      obtain ⟨L1, e1⟩ : ∃ x, Hid (IntKind.i64.wrap ((l.length : Int) - 1) = x) := ⟨_, rfl⟩
      obtain ⟨L2, e2⟩ : ∃ x, Hid (IntKind.i64.wrap (L1 - (n : Int)) = x) := ⟨_, rfl⟩
      obtain ⟨ex, e3⟩ : ∃ x, Hid (IntKind.i64.wrap (last - L2) = x) := ⟨_, rfl⟩
      have he : Qh1 last l n = ex := by unfold Qh1; rw [e1.out, e2.out, e3.out]
      by_cases hs : l[n].seq = ex
      . by_cases hz : n = 0
        . have hF : Hid (Qba last l (n + 1) = true) := by
           show _ = _; rw [Qcx, hR.out, Qbk hlt, h1', he, hs]; simp [hz]
          have hd : Hid (decide (0 < n) = false) := decide_eq_false (by omega)
          clear h1' he hz
          go_wp2
          refine wp_region_noPanic ?_
          refine wp_region_held_drew (S := (fun w' => w'.cell? ⟨w.heap.size, 3, none⟩ = some (.int .i64 last) /\ w'.cell? ⟨w.heap.size, 4, none⟩ = some (.slice (some ⟨b, o, none⟩) l.length cap) /\ w'.cell? ⟨b, o + n * 2, none⟩ = some (.int .i64 l[n].seq) /\ w'.cell? ⟨b, o + n * 2 + 1, none⟩ = some (.int .i64 l[n].off))) (by kernel_rfl) ?_ (fun hH => ?_)
          . (refine ⟨?_, ?_, ?_, ?_⟩<;>first | assumption | (simp; done))
          refine ztk [0,1,2,3,4,5] ?_; repeat (refine ztn (h := ?_); try simp only [zX,zY])
          refine zte ?_
          refine zR1 6 (fun K hK => ?_)
          simp only [zG]
          go_simp
          (go_at_call 32; refine (in_any _ _ _ _).mono ?_; rw [h1.out]; rintro e w' ⟨rfl, rfl⟩)
          refine hK.out _ _ ?_ (fun hH => ?_)
          . (go_split_ands; refine ⟨?_, ?_, ?_, ?_⟩<;>assumption)
          clear hK K
          try simp only [zX,zY]
          refine ztk [7,8,9,10,11,12,13,14,15,16,17,18,19] ?_; repeat (refine ztn (h := ?_); try simp only [zX,zY])
          refine zte ?_
          refine' wpAnyH_take (i := 20) (v := _) rfl (by kernel_rfl) (by kernel_rfl) (by kernel_rfl) (fun _ _ _ h => h) (Or.inl ⟨by rfl, ?hy31⟩) (by assumption) ?rest31
          case hy31 => (intro w hSw; (try dsimp only at hSw); go_simp<;>(rw [e1.out]<;>with_reducible rfl))
          try simp only [zX,zY]
          refine zt1 21 ?_; refine ztn (h := ?_); try simp only [zX,zY]
          refine zte ?_
          refine' wpAnyH_take (i := 22) (v := _) rfl (by kernel_rfl) (by kernel_rfl) (by kernel_rfl) (fun _ _ _ h => h) (Or.inl ⟨by rfl, ?hy33⟩) (by assumption) ?rest33
          case hy33 => (intro w hSw; (try dsimp only at hSw); go_simp<;>(rw [e2.out]<;>with_reducible rfl))
          try simp only [zX,zY]
          refine' wpAnyH_take (i := 23) (v := _) rfl (by kernel_rfl) (by kernel_rfl) (by kernel_rfl) (fun _ _ _ h => h) (Or.inl ⟨by rfl, ?hy34⟩) (by assumption) ?rest34
          case hy34 => (intro w hSw; (try dsimp only at hSw); go_simp<;>(rw [e3.out]<;>with_reducible rfl))
          try simp only [zX,zY]
          refine ztk [24,25,26,27] ?_; repeat (refine ztn (h := ?_); try simp only [zX,zY])
          refine zte ?_
          refine' wpAnyH_take (i := 28) (v := _) rfl (by kernel_rfl) (by kernel_rfl) (by kernel_rfl) (fun _ _ _ h => h) (Or.inl ⟨by rfl, ?hy39⟩) (by assumption) ?rest39
          case hy39 => (intro w hSw; (try dsimp only at hSw); go_simp<;>(rw [hd.out]<;>with_reducible rfl))
          try simp only [zX,zY]
          refine ztk [29,30,31,32,33,34,35,36,37,38,39,40,41,42,43,44,45] ?_; repeat ((first | refine ztn (h := ?_) | refine ztu (h := ?_)); try simp only [zX,zY])
          refine zte ?_
          refine zdn ?_
          go_wp2
          exact ⟨⟨n + 1, by go_num, by omega, b0.out.drew, hF, hbl.drew⟩, by simp [intOf]; omega⟩
        . obtain ⟨p, hpn⟩ : ∃ p, n = p + 1 := ⟨n - 1, by omega⟩
          have hpl : p < l.length := by omega
          obtain ⟨_, p1⟩ := (hin.below hbs hbl).getMk p hpl
          have hd : Hid (decide (0 < n) = true) := decide_eq_true (by omega)
          have j0 : (0 : Int) <= (p : Int) := by omega
          have j1 : (p : Int) < (l.length : Int) := by omega
          have jw : Hid (IntKind.i64.wrap ((n : Int) - 1) = (p : Int)) := by
           show IntKind.i64.wrap ((n : Int) - 1) = (p : Int)
           rw [IntKind.wrap_i64]; omega
          by_cases h4 : l[p].off < l[n].off
          . have hF : Hid (Qba last l (n + 1) = true) := by
             show _ = _; rw [Qcx, hR.out, Qbk hlt, h1', he, hs, prev_is hpl hpn]; simp [h4]
            have h5 : ¬ l[p].off >= l[n].off := by omega
            clear h1' he hz hpn h4
            go_wp2
            refine wp_region_noPanic ?_
            refine wp_region_held_drew (S := (fun w' => w'.cell? ⟨w.heap.size, 3, none⟩ = some (.int .i64 last) /\ w'.cell? ⟨w.heap.size, 4, none⟩ = some (.slice (some ⟨b, o, none⟩) l.length cap) /\ w'.cell? ⟨b, o + n * 2, none⟩ = some (.int .i64 l[n].seq) /\ w'.cell? ⟨b, o + n * 2 + 1, none⟩ = some (.int .i64 l[n].off) /\ w'.cell? ⟨b, o + p * 2 + 1, none⟩ = some (.int .i64 l[p].off))) (by kernel_rfl) ?_ (fun hH => ?_)
            . (refine ⟨?_, ?_, ?_, ?_, ?_⟩<;>first | assumption | (simp; done))
            refine ztk [0,1,2,3,4,5] ?_; repeat (refine ztn (h := ?_); try simp only [zX,zY])
            refine zte ?_
            refine zR1 6 (fun K hK => ?_)
            simp only [zG]
            go_simp
            (go_at_call 32; refine (in_any _ _ _ _).mono ?_; rw [h1.out]; rintro e w' ⟨rfl, rfl⟩)
            refine hK.out _ _ ?_ (fun hH => ?_)
            . (go_split_ands; refine ⟨?_, ?_, ?_, ?_, ?_⟩<;>assumption)
            clear hK K
            try simp only [zX,zY]
            refine ztk [7,8,9,10,11,12,13,14,15,16,17,18,19] ?_; repeat (refine ztn (h := ?_); try simp only [zX,zY])
            refine zte ?_
            refine' wpAnyH_take (i := 20) (v := _) rfl (by kernel_rfl) (by kernel_rfl) (by kernel_rfl) (fun _ _ _ h => h) (Or.inl ⟨by rfl, ?hy62⟩) (by assumption) ?rest62
            case hy62 => (intro w hSw; (try dsimp only at hSw); go_simp<;>(rw [e1.out]<;>with_reducible rfl))
            try simp only [zX,zY]
            refine zt1 21 ?_; refine ztn (h := ?_); try simp only [zX,zY]
            refine zte ?_
            refine' wpAnyH_take (i := 22) (v := _) rfl (by kernel_rfl) (by kernel_rfl) (by kernel_rfl) (fun _ _ _ h => h) (Or.inl ⟨by rfl, ?hy64⟩) (by assumption) ?rest64
            case hy64 => (intro w hSw; (try dsimp only at hSw); go_simp<;>(rw [e2.out]<;>with_reducible rfl))
            try simp only [zX,zY]
            refine' wpAnyH_take (i := 23) (v := _) rfl (by kernel_rfl) (by kernel_rfl) (by kernel_rfl) (fun _ _ _ h => h) (Or.inl ⟨by rfl, ?hy65⟩) (by assumption) ?rest65
            case hy65 => (intro w hSw; (try dsimp only at hSw); go_simp<;>(rw [e3.out]<;>with_reducible rfl))
            try simp only [zX,zY]
            refine ztk [24,25,26,27] ?_; repeat (refine ztn (h := ?_); try simp only [zX,zY])
            refine zte ?_
            refine' wpAnyH_take (i := 28) (v := _) rfl (by kernel_rfl) (by kernel_rfl) (by kernel_rfl) (fun _ _ _ h => h) (Or.inl ⟨by rfl, ?hy70⟩) (by assumption) ?rest70
            case hy70 => (intro w hSw; (try dsimp only at hSw); go_simp<;>(rw [hd.out]<;>with_reducible rfl))
            try simp only [zX,zY]
            refine ztk [29,30,31,32] ?_; repeat (refine ztn (h := ?_); try simp only [zX,zY])
            refine zte ?_
            refine' wpAnyH_take (i := 33) (v := _) rfl (by kernel_rfl) (by kernel_rfl) (by kernel_rfl) (fun _ _ _ h => h) (Or.inl ⟨by rfl, ?hy75⟩) (by assumption) ?rest75
            case hy75 => (intro w hSw; (try dsimp only at hSw); go_simp<;>(rw [jw.out]<;>with_reducible rfl))
            try simp only [zX,zY]
            refine ztk [34,35,36,37,38,39,40,41,42,43,44,45] ?_; repeat (refine ztn (h := ?_); try simp only [zX,zY])
            refine zte ?_
            refine zdn ?_
            go_wp2
            exact ⟨⟨n + 1, by go_num, by omega, b0.out.drew, hF, hbl.drew⟩, by simp [intOf]; omega⟩
          . have hF : Hid (okB row who epoch last window l = false) := okB_no (Qb7 hlt (by rw [Qbk hlt, h1', he, prev_is hpl hpn]; simp [h4]; omega))
            have h5 : l[p].off >= l[n].off := by omega
            clear h1' he hz hpn h4
            go_wp2
            refine wp_region_noPanic ?_
            refine wp_region_held_drew (S := (fun w' => w'.cell? ⟨w.heap.size, 3, none⟩ = some (.int .i64 last) /\ w'.cell? ⟨w.heap.size, 4, none⟩ = some (.slice (some ⟨b, o, none⟩) l.length cap) /\ w'.cell? ⟨b, o + n * 2, none⟩ = some (.int .i64 l[n].seq) /\ w'.cell? ⟨b, o + n * 2 + 1, none⟩ = some (.int .i64 l[n].off) /\ w'.cell? ⟨b, o + p * 2 + 1, none⟩ = some (.int .i64 l[p].off))) (by kernel_rfl) ?_ (fun hH => ?_)
            . (refine ⟨?_, ?_, ?_, ?_, ?_⟩<;>first | assumption | (simp; done))
            refine ztk [0,1,2,3,4,5] ?_; repeat (refine ztn (h := ?_); try simp only [zX,zY])
            refine zte ?_
            refine zR1 6 (fun K hK => ?_)
            simp only [zG]
            go_simp
            (go_at_call 32; refine (in_any _ _ _ _).mono ?_; rw [h1.out]; rintro e w' ⟨rfl, rfl⟩)
            refine hK.out _ _ ?_ (fun hH => ?_)
            . (go_split_ands; refine ⟨?_, ?_, ?_, ?_, ?_⟩<;>assumption)
            clear hK K
            try simp only [zX,zY]
            refine ztk [7,8,9,10,11,12,13,14,15,16,17,18,19] ?_; repeat (refine ztn (h := ?_); try simp only [zX,zY])
            refine zte ?_
            refine' wpAnyH_take (i := 20) (v := _) rfl (by kernel_rfl) (by kernel_rfl) (by kernel_rfl) (fun _ _ _ h => h) (Or.inl ⟨by rfl, ?hy107⟩) (by assumption) ?rest107
            case hy107 => (intro w hSw; (try dsimp only at hSw); go_simp<;>(rw [e1.out]<;>with_reducible rfl))
            try simp only [zX,zY]
            refine zt1 21 ?_; refine ztn (h := ?_); try simp only [zX,zY]
            refine zte ?_
            refine' wpAnyH_take (i := 22) (v := _) rfl (by kernel_rfl) (by kernel_rfl) (by kernel_rfl) (fun _ _ _ h => h) (Or.inl ⟨by rfl, ?hy109⟩) (by assumption) ?rest109
            case hy109 => (intro w hSw; (try dsimp only at hSw); go_simp<;>(rw [e2.out]<;>with_reducible rfl))
            try simp only [zX,zY]
            refine' wpAnyH_take (i := 23) (v := _) rfl (by kernel_rfl) (by kernel_rfl) (by kernel_rfl) (fun _ _ _ h => h) (Or.inl ⟨by rfl, ?hy110⟩) (by assumption) ?rest110
            case hy110 => (intro w hSw; (try dsimp only at hSw); go_simp<;>(rw [e3.out]<;>with_reducible rfl))
            try simp only [zX,zY]
            refine ztk [24,25,26,27] ?_; repeat (refine ztn (h := ?_); try simp only [zX,zY])
            refine zte ?_
            refine' wpAnyH_take (i := 28) (v := _) rfl (by kernel_rfl) (by kernel_rfl) (by kernel_rfl) (fun _ _ _ h => h) (Or.inl ⟨by rfl, ?hy115⟩) (by assumption) ?rest115
            case hy115 => (intro w hSw; (try dsimp only at hSw); go_simp<;>(rw [hd.out]<;>with_reducible rfl))
            try simp only [zX,zY]
            refine ztk [29,30,31,32] ?_; repeat (refine ztn (h := ?_); try simp only [zX,zY])
            refine zte ?_
            refine' wpAnyH_take (i := 33) (v := _) rfl (by kernel_rfl) (by kernel_rfl) (by kernel_rfl) (fun _ _ _ h => h) (Or.inl ⟨by rfl, ?hy120⟩) (by assumption) ?rest120
            case hy120 => (intro w hSw; (try dsimp only at hSw); go_simp<;>(rw [jw.out]<;>with_reducible rfl))
            try simp only [zX,zY]
            refine ztk [34,35,36,37,38,39,40,41,42,43,44,45] ?_; repeat (refine ztn (h := ?_); try simp only [zX,zY])
            refine zte ?_
            refine zdn ?_
            go_wp2
            go_ret
            exact ⟨by rw [hF.out]; rfl, hbl.drew⟩
      . have hF : Hid (okB row who epoch last window l = false) := okB_no (Qb7 hlt (by rw [Qbk hlt, h1', he]; simp [hs]))
        have hne1 : Hid ((l[n].seq != ex) = true) := by show _ = _; simpa using hs
        have hne2 : Hid ((!decide (l[n].seq = ex)) = true) := by show _ = _; simpa using hs
        have hne3 : Hid (decide (l[n].seq ≠ ex) = true) := by show _ = _; simpa using hs
        clear h1' he
        go_wp2
        refine wp_region_noPanic ?_
        refine wp_region_held_drew (S := (fun w' => w'.cell? ⟨w.heap.size, 3, none⟩ = some (.int .i64 last) /\ w'.cell? ⟨w.heap.size, 4, none⟩ = some (.slice (some ⟨b, o, none⟩) l.length cap) /\ w'.cell? ⟨b, o + n * 2, none⟩ = some (.int .i64 l[n].seq) /\ w'.cell? ⟨b, o + n * 2 + 1, none⟩ = some (.int .i64 l[n].off))) (by kernel_rfl) ?_ (fun hH => ?_)
        . (refine ⟨?_, ?_, ?_, ?_⟩<;>first | assumption | (simp; done))
        refine ztk [0,1,2,3,4,5] ?_; repeat (refine ztn (h := ?_); try simp only [zX,zY])
        refine zte ?_
        refine zR1 6 (fun K hK => ?_)
        simp only [zG]
        go_simp
        (go_at_call 32; refine (in_any _ _ _ _).mono ?_; rw [h1.out]; rintro e w' ⟨rfl, rfl⟩)
        refine hK.out _ _ ?_ (fun hH => ?_)
        . (go_split_ands; refine ⟨?_, ?_, ?_, ?_⟩<;>assumption)
        clear hK K
        try simp only [zX,zY]
        refine ztk [7,8,9,10,11,12,13,14,15,16,17,18,19] ?_; repeat (refine ztn (h := ?_); try simp only [zX,zY])
        refine zte ?_
        refine' wpAnyH_take (i := 20) (v := _) rfl (by kernel_rfl) (by kernel_rfl) (by kernel_rfl) (fun _ _ _ h => h) (Or.inl ⟨by rfl, ?hy152⟩) (by assumption) ?rest152
        case hy152 => (intro w hSw; (try dsimp only at hSw); go_simp<;>(rw [e1.out]<;>with_reducible rfl))
        try simp only [zX,zY]
        refine zt1 21 ?_; refine ztn (h := ?_); try simp only [zX,zY]
        refine zte ?_
        refine' wpAnyH_take (i := 22) (v := _) rfl (by kernel_rfl) (by kernel_rfl) (by kernel_rfl) (fun _ _ _ h => h) (Or.inl ⟨by rfl, ?hy154⟩) (by assumption) ?rest154
        case hy154 => (intro w hSw; (try dsimp only at hSw); go_simp<;>(rw [e2.out]<;>with_reducible rfl))
        try simp only [zX,zY]
        refine' wpAnyH_take (i := 23) (v := _) rfl (by kernel_rfl) (by kernel_rfl) (by kernel_rfl) (fun _ _ _ h => h) (Or.inl ⟨by rfl, ?hy155⟩) (by assumption) ?rest155
        case hy155 => (intro w hSw; (try dsimp only at hSw); go_simp<;>(rw [e3.out]<;>with_reducible rfl))
        try simp only [zX,zY]
        refine' wpAnyH_take (i := 24) (v := _) rfl (by kernel_rfl) (by kernel_rfl) (by kernel_rfl) (fun _ _ _ h => h) (Or.inl ⟨by rfl, ?hy156⟩) (by assumption) ?rest156
        case hy156 => (intro w hSw; (try dsimp only at hSw); go_simp<;>(first | rw [hne1.out] | rw [hne2.out] | rw [hne3.out]<;>with_reducible rfl))
        try simp only [zX,zY]
        refine ztk [25,26,27,28,29,30,31,32,33,34,35,36,37,38,39,40,41,42,43,44,45] ?_; repeat ((first | refine ztn (h := ?_) | refine ztu (h := ?_)); try simp only [zX,zY])
        refine zte ?_
        refine zdn ?_
        go_wp2
        go_ret
        exact ⟨by rw [hF.out]; rfl, hbl.drew⟩
  . obtain rfl : n = l.length := by omega
    by_cases h1 : (l.length : Int) > window
    . have hF : Hid (okB row who epoch last window l = false) := by
       show _ = _
       have a : decide ((l.length : Int) <= window) = false := decide_eq_false (by omega)
       unfold okB; rw [a]; simp
      go_wp2
      go_ret
      exact ⟨by rw [hF.out]; rfl, hbl⟩
    have h1' : decide ((l.length : Int) > window) = false := decide_eq_false h1
    by_cases h2 : (l.length : Int) > wrap64 (last + 1)
    . have hF : Hid (okB row who epoch last window l = false) := okB_two hl h2
      go_wp2
      go_ret
      exact ⟨by rw [hF.out]; rfl, hbl⟩
    have h2' : decide ((l.length : Int) > wrap64 (last + 1)) = false := decide_eq_false h2
    by_cases h3 : last >= 0
    . by_cases h4 : (l.length : Int) = 0
      . have hF : Hid (okB row who epoch last window l = false) := okB_three h3 h4
        have h4' := hidP h4
        go_wp2
        go_ret
        exact ⟨by rw [hF.out]; rfl, hbl⟩
      . have hF : Hid (okB row who epoch last window l = (inB row 0 3 && (inB who 0 3 && (inB epoch 0 100000 && inB last (-1) 100000)))) := okB_yes hl hR.out h1 h2 (fun h => h4 h.2)
        have h4' : decide ((l.length : Int) = 0) = false := decide_eq_false h4
        cases k1 : inB row 0 3<;>cases k2 : inB who 0 3<;>cases k3 : inB epoch 0 100000<;>cases k4 : inB last (-1) 100000
        all_goals
         rw [k1, k2, k3, k4] at hF
         go_wp2_with (go_at_call 32; refine (in_any _ _ _ _).mono ?_; (first | rw [k1] | rw [k2] | rw [k3] | rw [k4]); rintro e w' ⟨rfl, rfl⟩)
         go_ret
         exact ⟨by rw [hF.out]; rfl, hbl⟩
    . have hF : Hid (okB row who epoch last window l = (inB row 0 3 && (inB who 0 3 && (inB epoch 0 100000 && inB last (-1) 100000)))) := okB_yes hl hR.out h1 h2 (fun h => h3 h.1)
      have h3' : decide (last >= 0) = false := decide_eq_false h3
      cases k1 : inB row 0 3<;>cases k2 : inB who 0 3<;>cases k3 : inB epoch 0 100000<;>cases k4 : inB last (-1) 100000
      all_goals
       rw [k1, k2, k3, k4] at hF
       go_wp2_with (go_at_call 32; refine (in_any _ _ _ _).mono ?_; (first | rw [k1] | rw [k2] | rw [k3] | rw [k4]); rintro e w' ⟨rfl, rfl⟩)
       go_ret
       exact ⟨by rw [hF.out]; rfl, hbl⟩
end Go.Proofs.YtkmkldjipihceaaGreat.Gen
