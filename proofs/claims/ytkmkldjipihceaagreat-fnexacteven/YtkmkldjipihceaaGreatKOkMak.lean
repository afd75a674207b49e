/-
  The specification's makers at this seat: each right, and in order. No condition but that there are at most 1048576.
-/
import Derived.Test.YtkmkldjipihceaaGreatKOk
set_option linter.unusedVariables false
set_option linter.unusedSimpArgs false
set_option maxRecDepth 100000
set_option maxHeartbeats 8000000
set_option maxRecDepth 100000
set_option maxHeartbeats 8000000
namespace Go.Proofs.YtkmkldjipihceaaGreat.Gen
open ChangeShapes WideShapes ChangeAt RowKit Joins Deep Base
theorem Qeo (ro wi le ke : Int) (A : Option Addr) (cap : Nat) (l : List MC) (hl : l.length <= 1048576) (hs : ∀ x ∈ l, x.ms.length <= 1048576) (w : World) (hA : At w A l) (hE : Each w l) :
 Calls Tryz.prog 115 #[.agg (Qag ro wi le ke), .slice A l.length cap] w fun e w' => e = .returned (.bool (l.all (makF ro wi) && Qbn l l.length)) /\ Below w.heap.size w w' := by
 have HA := hidP hA
 have HE := hidP hE
 have Hs := hidP hs
 clear hA hE hs
 go_enter Tryz.func115, Tryz.ntmps115
 go_wp2
 go_loopw [5] (fun i w' => ∃ (n : Nat), i = .int .i64 (n : Int) /\ n <= l.length /\ Hid ((l.take n).all (makF ro wi) = true) /\ Hid (Qbn l n = true) /\ Hid (Blk w' w.heap.size 33 (Qag ro wi le ke)) /\ Below w.heap.size w w') (fun i _ => l.length - (intOf i).toNat)
 case atStart => exact ⟨0, rfl, by omega, rfl, rfl, Blk.new w _ _, by repeat (first | exact Below.refl _ _ | assumption | refine via0 (by assumption) ?_ | refine Below.drew ?_ | refine Qab ?_ _)⟩
 case round =>
  obtain ⟨n, rfl, hn, hal, hO, P0, hbl⟩ := hrel
  by_cases hlt : n < l.length
  . obtain ⟨b, o, rfl, hbs, hIn⟩ : ∃ b o, A = some ⟨b, o, none⟩ /\ b < w.heap.size /\ In w b o l := by
     rcases HA.out with h | h
     . subst h; simp at hlt
     . exact h
    obtain ⟨c0, c1, c2, c3, c4⟩ := (hIn.below hbs hbl).getMC n hlt
    have hat := (HE.out _ (List.getElem_mem hlt)).below hbl
    have hms := Hs.out _ (List.getElem_mem hlt)
    have hsa := Qbs (makF ro wi) hlt
    have hna := Qc3 (makF ro wi) hlt
    have hi0 : (0 : Int) <= (n : Int) := by omega
    have hi1 : (n : Int) < (l.length : Int) := by omega
    generalize hy : l[n] = y at c0 c1 c2 c3 c4 hat hms hsa hna
    have Hy := hidP hy
    clear hy
    obtain ⟨bb, hb⟩ : ∃ b, okB y.row y.who y.epoch y.last wi y.ms = b := ⟨_, rfl⟩
    have HC : Hid (∀ W : World, Below wr.heap.size wr W -> Calls Tryz.prog 140 #[.agg (Qa6 y.row y.who y.epoch y.last y.A y.ms.length y.cap), .int .i64 wi] W fun e w' => e = .returned (.bool bb) /\ Below W.heap.size W w') := fun W g => hb ▸ specOk_is _ _ _ _ _ _ _ _ hms W (hat.below g)
    have hm : makF ro wi y = (bb && decide (y.row < ro)) := by rw [makF, hb]
    rw [hm] at hsa hna
    obtain ⟨s0, s1, s2, s3⟩ := P0.out.row4
    have qs := P0.out.lt
    clear hb hm hat
    cases bb
    . have hF : Hid ((l.all (makF ro wi) && Qbn l l.length) = false) := by show _ = _; rw [hna rfl]; rfl
      clear hsa hna
      go_wp2_with fail
      refine (HC.out _ (Qab (Below.refl _ _) _)).mono ?_
      rintro e w1 ⟨rfl, g1⟩
      have B1 : Below w.heap.size w w1 := via0 g1 (Qab hbl _)
      go_wp2
      go_ret
      exact ⟨by rw [hF.out]; rfl, B1⟩
    by_cases kr : ro <= y.row
    . have hF : Hid ((l.all (makF ro wi) && Qbn l l.length) = false) := by show _ = _; rw [hna (by simp; omega)]; rfl
      clear hsa hna
      go_wp2_with fail
      refine (HC.out _ (Qab (Below.refl _ _) _)).mono ?_
      rintro e w1 ⟨rfl, g1⟩
      have B1 : Below w.heap.size w w1 := via0 g1 (Qab hbl _)
      have p1 := (P0.out.alloc (.cells (Qa6 y.row y.who y.epoch y.last y.A y.ms.length y.cap) 221)).below g1 (by simp; omega)
      have y1 := (Blk.new wr 221 (Qa6 y.row y.who y.epoch y.last y.A y.ms.length y.cap)).below g1 (by simp)
      obtain ⟨t0, t1, t2, t3⟩ := p1.row4
      obtain ⟨e0, e1, e2, e3, e4⟩ := y1.row5
      have q1 := p1.lt
      have q2 := y1.lt
      go_wp2
      go_ret
      exact ⟨by rw [hF.out]; rfl, B1⟩
    . have hA1 : Hid ((l.take (n + 1)).all (makF ro wi) = true) := by show _ = _; rw [hsa, hal.out]; simp; omega
      clear hsa hna
      go_wp2_with fail
      refine (HC.out _ (Qab (Below.refl _ _) _)).mono ?_
      rintro e w1 ⟨rfl, g1⟩
      have B1 : Below w.heap.size w w1 := via0 g1 (Qab hbl _)
      have p1 := (P0.out.alloc (.cells (Qa6 y.row y.who y.epoch y.last y.A y.ms.length y.cap) 221)).below g1 (by simp; omega)
      have y1 := (Blk.new wr 221 (Qa6 y.row y.who y.epoch y.last y.A y.ms.length y.cap)).below g1 (by simp)
      have P1 := hidP p1
      obtain ⟨t0, t1, t2, t3⟩ := p1.row4
      obtain ⟨e0, e1, e2, e3, e4⟩ := y1.row5
      have q1 := p1.lt
      have q2 := y1.lt
      clear c0 c1 c2 c3 c4 s0 s1 s2 s3 p1 y1 g1 HC qs
      generalize wr.heap.size = mb at *
      by_cases hz : n = 0
      . have hO1 : Hid (Qbn l (n + 1) = true) := by show _ = _; rw [Qdp, hO.out]; simp [Qev, hz]
        have hd : Hid (decide (0 < n) = false) := decide_eq_false (by omega)
        clear hz
        go_wp2
        refine wp_region_noPanic ?_
        refine wp_region_held_drew (S := (fun w' => w'.cell? ⟨mb, 0, none⟩ = some (.int .i64 y.row) /\ w'.cell? ⟨mb, 1, none⟩ = some (.int .i64 y.who))) (by kernel_rfl) ?_ (fun hH => ?_)
        . (refine ⟨?_, ?_⟩<;>assumption)
        refine zt1 0 ?_; refine ztn (h := ?_); try simp only [zX,zY]
        refine zte ?_
        refine' wpAnyH_take (i := 1) (v := _) rfl (by kernel_rfl) (by kernel_rfl) (by kernel_rfl) (fun _ _ _ h => h) (Or.inl ⟨by rfl, ?hy12⟩) (by assumption) ?rest12
        case hy12 => (intro w hSw; (try dsimp only at hSw); go_simp<;>(rw [hd.out]<;>with_reducible rfl))
        try simp only [zX,zY]
        refine ztk [2,3,4,5,6,7,8,9,10,11,12,13,14,15,16,17,18,19,20,21,22,23,24,25,26,27,28,29,30,31,32,33,34] ?_; repeat ((first | refine ztn (h := ?_) | refine ztu (h := ?_)); try simp only [zX,zY])
        refine zte ?_
        refine zdn ?_
        go_wp2
        exact ⟨⟨n + 1, by go_num, by omega, hA1, hO1, P1.out.drew, B1.drew⟩, by simp [intOf]; omega⟩
      . obtain ⟨p, hpn⟩ : ∃ p, n = p + 1 := ⟨n - 1, by omega⟩
        have hpl : p < l.length := by omega
        obtain ⟨d0, d1, d2, d3, d4⟩ := (hIn.below hbs B1).getMC p hpl
        have hd : Hid (decide (0 < n) = true) := decide_eq_true (by omega)
        have j0 : (0 : Int) <= (p : Int) := by omega
        have j1 : (p : Int) < (l.length : Int) := by omega
        have jw : Hid (IntKind.i64.wrap ((n : Int) - 1) = (p : Int)) := by
         show IntKind.i64.wrap ((n : Int) - 1) = (p : Int)
         rw [IntKind.wrap_i64]; omega
        have hb2 : b < w1.heap.size := Nat.lt_of_lt_of_le hbs B1.size
        have hoa : Qev l n = behB l[p] y := by rw [← Hy.out]; subst hpn; exact ordAt_is hlt
        have hsu : Qbn l (n + 1) = behB l[p] y := by rw [Qdp, hO.out, hoa]; rfl
        have hno : behB l[p] y = false -> Qbn l l.length = false := fun h => ordTo_no hlt (hoa.trans h)
        clear hoa hpn hz
        generalize l[p] = z at d0 d1 d2 d3 d4 hsu hno
        by_cases k1 : y.row < z.row
        . have hF : Hid ((l.all (makF ro wi) && Qbn l l.length) = false) := by show _ = _; rw [hno (by simp [behB]; omega)]; simp
          have hg : Hid (decide (y.row < z.row) = true) := decide_eq_true k1
          clear hsu hno k1
          go_wp2
          refine wp_region_noPanic ?_
          refine wp_region_held_drew (S := (fun w' => w'.cell? ⟨mb, 0, none⟩ = some (.int .i64 y.row) /\ w'.cell? ⟨mb, 1, none⟩ = some (.int .i64 y.who) /\ w'.cell? ⟨b, o + p * 5, none⟩ = some (.int .i64 z.row) /\ w'.cell? ⟨b, o + p * 5 + 1, none⟩ = some (.int .i64 z.who))) (by kernel_rfl) ?_ (fun hH => ?_)
          . (refine ⟨?_, ?_, ?_, ?_⟩<;>assumption)
          refine zt1 0 ?_; refine ztn (h := ?_); try simp only [zX,zY]
          refine zte ?_
          refine' wpAnyH_take (i := 1) (v := _) rfl (by kernel_rfl) (by kernel_rfl) (by kernel_rfl) (fun _ _ _ h => h) (Or.inl ⟨by rfl, ?hy16⟩) (by assumption) ?rest16
          case hy16 => (intro w hSw; (try dsimp only at hSw); go_simp<;>(rw [hd.out]<;>with_reducible rfl))
          try simp only [zX,zY]
          refine ztk [2,3,4] ?_; repeat (refine ztn (h := ?_); try simp only [zX,zY])
          refine zte ?_
          refine' wpAnyH_take (i := 5) (v := _) rfl (by kernel_rfl) (by kernel_rfl) (by kernel_rfl) (fun _ _ _ h => h) (Or.inl ⟨by rfl, ?hy20⟩) (by assumption) ?rest20
          case hy20 => (intro w hSw; (try dsimp only at hSw); go_simp<;>(rw [jw.out]<;>with_reducible rfl))
          try simp only [zX,zY]
          refine ztk [6,7,8,9,10] ?_; repeat (refine ztn (h := ?_); try simp only [zX,zY])
          refine zte ?_
          refine' wpAnyH_take (i := 11) (v := _) rfl (by kernel_rfl) (by kernel_rfl) (by kernel_rfl) (fun _ _ _ h => h) (Or.inl ⟨by rfl, ?hy26⟩) (by assumption) ?rest26
          case hy26 => (intro w hSw; (try dsimp only at hSw); go_simp<;>(rw [hg.out]<;>with_reducible rfl))
          try simp only [zX,zY]
          refine ztk [12,13,14,15,16,17,18,19,20,21,22,23,24,25,26,27,28,29,30,31,32,33,34] ?_; repeat ((first | refine ztn (h := ?_) | refine ztu (h := ?_)); try simp only [zX,zY])
          refine zte ?_
          refine zdn ?_
          go_wp2
          go_ret
          exact ⟨by rw [hF.out]; rfl, B1.drew⟩
        . have hg : Hid (decide (y.row < z.row) = false) := decide_eq_false k1
          by_cases k2 : z.row = y.row
          . have he : Hid ((z.row == y.row) = true) := by show _ = _; simp [k2]
            by_cases k3 : y.who <= z.who
            . have hF : Hid ((l.all (makF ro wi) && Qbn l l.length) = false) := by show _ = _; rw [hno (by simp [behB]; omega)]; simp
              have hw : Hid (decide (y.who <= z.who) = true) := decide_eq_true k3
              clear hsu hno k1 k2 k3
              go_wp2
              refine wp_region_noPanic ?_
              refine wp_region_held_drew (S := (fun w' => w'.cell? ⟨mb, 0, none⟩ = some (.int .i64 y.row) /\ w'.cell? ⟨mb, 1, none⟩ = some (.int .i64 y.who) /\ w'.cell? ⟨b, o + p * 5, none⟩ = some (.int .i64 z.row) /\ w'.cell? ⟨b, o + p * 5 + 1, none⟩ = some (.int .i64 z.who))) (by kernel_rfl) ?_ (fun hH => ?_)
              . (refine ⟨?_, ?_, ?_, ?_⟩<;>assumption)
              refine zt1 0 ?_; refine ztn (h := ?_); try simp only [zX,zY]
              refine zte ?_
              refine' wpAnyH_take (i := 1) (v := _) rfl (by kernel_rfl) (by kernel_rfl) (by kernel_rfl) (fun _ _ _ h => h) (Or.inl ⟨by rfl, ?hy31⟩) (by assumption) ?rest31
              case hy31 => (intro w hSw; (try dsimp only at hSw); go_simp<;>(rw [hd.out]<;>with_reducible rfl))
              try simp only [zX,zY]
              refine ztk [2,3,4] ?_; repeat (refine ztn (h := ?_); try simp only [zX,zY])
              refine zte ?_
              refine' wpAnyH_take (i := 5) (v := _) rfl (by kernel_rfl) (by kernel_rfl) (by kernel_rfl) (fun _ _ _ h => h) (Or.inl ⟨by rfl, ?hy35⟩) (by assumption) ?rest35
              case hy35 => (intro w hSw; (try dsimp only at hSw); go_simp<;>(rw [jw.out]<;>with_reducible rfl))
              try simp only [zX,zY]
              refine ztk [6,7,8,9,10] ?_; repeat (refine ztn (h := ?_); try simp only [zX,zY])
              refine zte ?_
              refine' wpAnyH_take (i := 11) (v := _) rfl (by kernel_rfl) (by kernel_rfl) (by kernel_rfl) (fun _ _ _ h => h) (Or.inl ⟨by rfl, ?hy41⟩) (by assumption) ?rest41
              case hy41 => (intro w hSw; (try dsimp only at hSw); go_simp<;>(rw [hg.out]<;>with_reducible rfl))
              try simp only [zX,zY]
              refine ztk [12,13,14] ?_; repeat (refine ztn (h := ?_); try simp only [zX,zY])
              refine zte ?_
              refine' wpAnyH_take (i := 15) (v := _) rfl (by kernel_rfl) (by kernel_rfl) (by kernel_rfl) (fun _ _ _ h => h) (Or.inl ⟨by rfl, ?hy45⟩) (by assumption) ?rest45
              case hy45 => (intro w hSw; (try dsimp only at hSw); go_simp<;>(rw [jw.out]<;>with_reducible rfl))
              try simp only [zX,zY]
              refine ztk [16,17,18,19,20] ?_; repeat (refine ztn (h := ?_); try simp only [zX,zY])
              refine zte ?_
              refine' wpAnyH_take (i := 21) (v := _) rfl (by kernel_rfl) (by kernel_rfl) (by kernel_rfl) (fun _ _ _ h => h) (Or.inl ⟨by rfl, ?hy51⟩) (by assumption) ?rest51
              case hy51 => (intro w hSw; (try dsimp only at hSw); go_simp<;>(rw [he.out]<;>with_reducible rfl))
              try simp only [zX,zY]
              refine ztk [22,23,24] ?_; repeat (refine ztn (h := ?_); try simp only [zX,zY])
              refine zte ?_
              refine' wpAnyH_take (i := 25) (v := _) rfl (by kernel_rfl) (by kernel_rfl) (by kernel_rfl) (fun _ _ _ h => h) (Or.inl ⟨by rfl, ?hy55⟩) (by assumption) ?rest55
              case hy55 => (intro w hSw; (try dsimp only at hSw); go_simp<;>(rw [jw.out]<;>with_reducible rfl))
              try simp only [zX,zY]
              refine ztk [26,27,28,29,30] ?_; repeat (refine ztn (h := ?_); try simp only [zX,zY])
              refine zte ?_
              refine' wpAnyH_take (i := 31) (v := _) rfl (by kernel_rfl) (by kernel_rfl) (by kernel_rfl) (fun _ _ _ h => h) (Or.inl ⟨by rfl, ?hy61⟩) (by assumption) ?rest61
              case hy61 => (intro w hSw; (try dsimp only at hSw); go_simp<;>(rw [hw.out]<;>with_reducible rfl))
              try simp only [zX,zY]
              refine ztk [32,33,34] ?_; repeat (refine ztn (h := ?_); try simp only [zX,zY])
              refine zte ?_
              refine zdn ?_
              go_wp2
              go_ret
              exact ⟨by rw [hF.out]; rfl, B1.drew⟩
            . have hO1 : Hid (Qbn l (n + 1) = true) := by show _ = _; rw [hsu]; simp [behB, k2]; omega
              have hw : Hid (decide (y.who <= z.who) = false) := decide_eq_false k3
              clear hsu hno k1 k2 k3
              go_wp2
              refine wp_region_noPanic ?_
              refine wp_region_held_drew (S := (fun w' => w'.cell? ⟨mb, 0, none⟩ = some (.int .i64 y.row) /\ w'.cell? ⟨mb, 1, none⟩ = some (.int .i64 y.who) /\ w'.cell? ⟨b, o + p * 5, none⟩ = some (.int .i64 z.row) /\ w'.cell? ⟨b, o + p * 5 + 1, none⟩ = some (.int .i64 z.who))) (by kernel_rfl) ?_ (fun hH => ?_)
              . (refine ⟨?_, ?_, ?_, ?_⟩<;>assumption)
              refine zt1 0 ?_; refine ztn (h := ?_); try simp only [zX,zY]
              refine zte ?_
              refine' wpAnyH_take (i := 1) (v := _) rfl (by kernel_rfl) (by kernel_rfl) (by kernel_rfl) (fun _ _ _ h => h) (Or.inl ⟨by rfl, ?hy66⟩) (by assumption) ?rest66
              case hy66 => (intro w hSw; (try dsimp only at hSw); go_simp<;>(rw [hd.out]<;>with_reducible rfl))
              try simp only [zX,zY]
              refine ztk [2,3,4] ?_; repeat (refine ztn (h := ?_); try simp only [zX,zY])
              refine zte ?_
              refine' wpAnyH_take (i := 5) (v := _) rfl (by kernel_rfl) (by kernel_rfl) (by kernel_rfl) (fun _ _ _ h => h) (Or.inl ⟨by rfl, ?hy70⟩) (by assumption) ?rest70
              case hy70 => (intro w hSw; (try dsimp only at hSw); go_simp<;>(rw [jw.out]<;>with_reducible rfl))
              try simp only [zX,zY]
              refine ztk [6,7,8,9,10] ?_; repeat (refine ztn (h := ?_); try simp only [zX,zY])
              refine zte ?_
              refine' wpAnyH_take (i := 11) (v := _) rfl (by kernel_rfl) (by kernel_rfl) (by kernel_rfl) (fun _ _ _ h => h) (Or.inl ⟨by rfl, ?hy76⟩) (by assumption) ?rest76
              case hy76 => (intro w hSw; (try dsimp only at hSw); go_simp<;>(rw [hg.out]<;>with_reducible rfl))
              try simp only [zX,zY]
              refine ztk [12,13,14] ?_; repeat (refine ztn (h := ?_); try simp only [zX,zY])
              refine zte ?_
              refine' wpAnyH_take (i := 15) (v := _) rfl (by kernel_rfl) (by kernel_rfl) (by kernel_rfl) (fun _ _ _ h => h) (Or.inl ⟨by rfl, ?hy80⟩) (by assumption) ?rest80
              case hy80 => (intro w hSw; (try dsimp only at hSw); go_simp<;>(rw [jw.out]<;>with_reducible rfl))
              try simp only [zX,zY]
              refine ztk [16,17,18,19,20] ?_; repeat (refine ztn (h := ?_); try simp only [zX,zY])
              refine zte ?_
              refine' wpAnyH_take (i := 21) (v := _) rfl (by kernel_rfl) (by kernel_rfl) (by kernel_rfl) (fun _ _ _ h => h) (Or.inl ⟨by rfl, ?hy86⟩) (by assumption) ?rest86
              case hy86 => (intro w hSw; (try dsimp only at hSw); go_simp<;>(rw [he.out]<;>with_reducible rfl))
              try simp only [zX,zY]
              refine ztk [22,23,24] ?_; repeat (refine ztn (h := ?_); try simp only [zX,zY])
              refine zte ?_
              refine' wpAnyH_take (i := 25) (v := _) rfl (by kernel_rfl) (by kernel_rfl) (by kernel_rfl) (fun _ _ _ h => h) (Or.inl ⟨by rfl, ?hy90⟩) (by assumption) ?rest90
              case hy90 => (intro w hSw; (try dsimp only at hSw); go_simp<;>(rw [jw.out]<;>with_reducible rfl))
              try simp only [zX,zY]
              refine ztk [26,27,28,29,30] ?_; repeat (refine ztn (h := ?_); try simp only [zX,zY])
              refine zte ?_
              refine' wpAnyH_take (i := 31) (v := _) rfl (by kernel_rfl) (by kernel_rfl) (by kernel_rfl) (fun _ _ _ h => h) (Or.inl ⟨by rfl, ?hy96⟩) (by assumption) ?rest96
              case hy96 => (intro w hSw; (try dsimp only at hSw); go_simp<;>(rw [hw.out]<;>with_reducible rfl))
              try simp only [zX,zY]
              refine ztk [32,33,34] ?_; repeat (refine ztn (h := ?_); try simp only [zX,zY])
              refine zte ?_
              refine zdn ?_
              go_wp2
              exact ⟨⟨n + 1, by go_num, by omega, hA1, hO1, P1.out.drew, B1.drew⟩, by simp [intOf]; omega⟩
          . have he : Hid ((z.row == y.row) = false) := by show _ = _; simp [k2]
            have hO1 : Hid (Qbn l (n + 1) = true) := by show _ = _; rw [hsu]; simp [behB]; omega
            clear hsu hno k1 k2
            go_wp2
            refine wp_region_noPanic ?_
            refine wp_region_held_drew (S := (fun w' => w'.cell? ⟨mb, 0, none⟩ = some (.int .i64 y.row) /\ w'.cell? ⟨mb, 1, none⟩ = some (.int .i64 y.who) /\ w'.cell? ⟨b, o + p * 5, none⟩ = some (.int .i64 z.row) /\ w'.cell? ⟨b, o + p * 5 + 1, none⟩ = some (.int .i64 z.who))) (by kernel_rfl) ?_ (fun hH => ?_)
            . (refine ⟨?_, ?_, ?_, ?_⟩<;>assumption)
            refine zt1 0 ?_; refine ztn (h := ?_); try simp only [zX,zY]
            refine zte ?_
            refine' wpAnyH_take (i := 1) (v := _) rfl (by kernel_rfl) (by kernel_rfl) (by kernel_rfl) (fun _ _ _ h => h) (Or.inl ⟨by rfl, ?hy101⟩) (by assumption) ?rest101
            case hy101 => (intro w hSw; (try dsimp only at hSw); go_simp<;>(rw [hd.out]<;>with_reducible rfl))
            try simp only [zX,zY]
            refine ztk [2,3,4] ?_; repeat (refine ztn (h := ?_); try simp only [zX,zY])
            refine zte ?_
            refine' wpAnyH_take (i := 5) (v := _) rfl (by kernel_rfl) (by kernel_rfl) (by kernel_rfl) (fun _ _ _ h => h) (Or.inl ⟨by rfl, ?hy105⟩) (by assumption) ?rest105
            case hy105 => (intro w hSw; (try dsimp only at hSw); go_simp<;>(rw [jw.out]<;>with_reducible rfl))
            try simp only [zX,zY]
            refine ztk [6,7,8,9,10] ?_; repeat (refine ztn (h := ?_); try simp only [zX,zY])
            refine zte ?_
            refine' wpAnyH_take (i := 11) (v := _) rfl (by kernel_rfl) (by kernel_rfl) (by kernel_rfl) (fun _ _ _ h => h) (Or.inl ⟨by rfl, ?hy111⟩) (by assumption) ?rest111
            case hy111 => (intro w hSw; (try dsimp only at hSw); go_simp<;>(rw [hg.out]<;>with_reducible rfl))
            try simp only [zX,zY]
            refine ztk [12,13,14] ?_; repeat (refine ztn (h := ?_); try simp only [zX,zY])
            refine zte ?_
            refine' wpAnyH_take (i := 15) (v := _) rfl (by kernel_rfl) (by kernel_rfl) (by kernel_rfl) (fun _ _ _ h => h) (Or.inl ⟨by rfl, ?hy115⟩) (by assumption) ?rest115
            case hy115 => (intro w hSw; (try dsimp only at hSw); go_simp<;>(rw [jw.out]<;>with_reducible rfl))
            try simp only [zX,zY]
            refine ztk [16,17,18,19,20] ?_; repeat (refine ztn (h := ?_); try simp only [zX,zY])
            refine zte ?_
            refine' wpAnyH_take (i := 21) (v := _) rfl (by kernel_rfl) (by kernel_rfl) (by kernel_rfl) (fun _ _ _ h => h) (Or.inl ⟨by rfl, ?hy121⟩) (by assumption) ?rest121
            case hy121 => (intro w hSw; (try dsimp only at hSw); go_simp<;>(rw [he.out]<;>with_reducible rfl))
            try simp only [zX,zY]
            refine ztk [22,23,24,25,26,27,28,29,30,31,32,33,34] ?_; repeat ((first | refine ztn (h := ?_) | refine ztu (h := ?_)); try simp only [zX,zY])
            refine zte ?_
            refine zdn ?_
            go_wp2
            exact ⟨⟨n + 1, by go_num, by omega, hA1, hO1, P1.out.drew, B1.drew⟩, by simp [intOf]; omega⟩
  . have e : l.take n = l := List.take_of_length_le (by omega)
    have e2 : n = l.length := by omega
    have hF : Hid ((l.all (makF ro wi) && Qbn l l.length) = true) := by
     show _ = _
     have h1 := hal.out
     have h2 := hO.out
     rw [e] at h1
     rw [e2] at h2
     rw [h1, h2]; rfl
    clear e e2
    go_wp2
    go_ret
    exact ⟨by rw [hF.out]; rfl, hbl⟩
end Go.Proofs.YtkmkldjipihceaaGreat.Gen
