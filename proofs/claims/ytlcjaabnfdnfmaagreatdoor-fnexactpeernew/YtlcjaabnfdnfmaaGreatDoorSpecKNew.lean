/-
  The specification's KeepNew at this seat. No condition.
-/
import Derived.Test.YtlcjaabnfdnfmaaGreatDoorOwnS
set_option linter.unusedVariables false
set_option linter.unusedSimpArgs false
set_option maxRecDepth 100000
set_option maxHeartbeats 8000000
namespace Go.Proofs.YtlcjaabnfdnfmaaGreatDoor.Gen
open ChangeShapes WideShapes ChangeAt RowKit Joins Deep Base
theorem Qc7 (ro wi le ke : Int) (w : World) :
 Calls Tryz.prog 14 #[.agg #[.int .i64 ro, .int .i64 wi, .int .i64 le, .int .i64 ke]] w fun e w' => ToldK w w' e (newK (setB ro wi le ke) ro) := by
 cases hb : setB ro wi le ke
 . go_enter Tryz.func14, Tryz.ntmps14
   go_wp2_with (go_at_call 10; refine (Qa7 ro wi le ke _).mono ?_; rw [hb]; rintro e w1 ⟨rfl, g1⟩; obtain ⟨k1, m1⟩ := Qaj g1; have B1 : Below w.heap.size w w1 := via0 g1 (Qaa (Qaa (Below.refl _ _) _) _); have p1 := ((Blk.new (w.alloc (.cells #[.int .i64 ro, .int .i64 wi, .int .i64 le, .int .i64 ke] 45)) 33 #[.slice none 0 0, .slice none 0 0, .slice none 0 0, .int .i64 0, .slice none 0 0, .slice none 0 0])).below g1 (by simp); rw [World.size_alloc] at p1; obtain ⟨r0, r1, r2, r3, r4, r5⟩ := p1.row6; have f0 := p1.thaw 0; have f1 := p1.thaw 1; have f2 := p1.thaw 2; have f3 := p1.thaw 3; have f4 := p1.thaw 4; have f5 := p1.thaw 5)
   refine bodyPost_ret (v := .agg #[.slice none 0 0, .slice none 0 0, .slice none 0 0, .int .i64 0, .slice none 0 0, .slice none 0 0]) (by simp [results, Tryz.results14, go_sem, r0, r1, r2, r3, r4, r5]) rfl (Qgk ?_)
   exact Qam (Qam (Qam (Qam (Qam (Qam B1 (Nat.le_succ _) _) (Nat.le_succ _) _) (Nat.le_succ _) _) (Nat.le_succ _) _) (Nat.le_succ _) _) (Nat.le_succ _) _
 . obtain ⟨hr1, hr4⟩ := Qcr hb
   obtain ⟨n, rfl⟩ : ∃ n : Nat, ro = n := ⟨ro.toNat, by omega⟩
   have hmR := Qbk (P := Tryz.prog) Tryz.underlying27 infoRC (by omega) n (by omega)
   have hmD : ∀ w : World, (Instr.makeSlice 30 (.int .i64 4) (.int .i64 4)).run Tryz.prog w = .ok (.slice (some ⟨w.heap.size, 0, none⟩) 4 4) (w.alloc (.cells (madeCells #[.int .i64 0] 4) 3)) := Qbk (P := Tryz.prog) Tryz.underlying30 Qcp (by omega) 4 (by omega)
   have hmL : ∀ w : World, (Instr.makeSlice 31 (.int .i64 4) (.int .i64 4)).run Tryz.prog w = .ok (.slice (some ⟨w.heap.size, 0, none⟩) 4 4) (w.alloc (.cells (madeCells #[.int .i64 0, .int .i64 0, .string ⟨#[]⟩, .string ⟨#[]⟩] 16) 122)) := Qbk (P := Tryz.prog) Tryz.underlying31 infoAn (by omega) 4 (by omega)
   go_enter Tryz.func14, Tryz.ntmps14
   go_upto_region 3 with (go_at_call 10; refine (Qa7 (n : Int) wi le ke _).mono ?_; rw [hb]; rintro e w1 ⟨rfl, g1⟩)
   have I : ∀ V, KR w w1 (n : Int) wi le ke n V (fun _ => none) := fun V => ⟨via0 g1 (Qaa (Qaa (Below.refl _ _) _) _), ((Blk.new w _ _).alloc _).below g1 (by simp; omega), by have := (Blk.new (w.alloc (.cells #[.int .i64 (n : Int), .int .i64 wi, .int .i64 le, .int .i64 ke] 45)) 33 #[.slice none 0 0, .slice none 0 0, .slice none 0 0, .int .i64 0, .slice none 0 0, .slice none 0 0]).below g1 (by simp); rwa [World.size_alloc] at this, fun i b e => (by cases e), fun i j b e => (by cases e), fun b e => (by cases e), fun b e => (by cases e), fun b e => (by cases e), fun b e => (by cases e)⟩
   have J := hidP I
   have I := I #[.slice none 0 0, .slice none 0 0, .slice none 0 0, .int .i64 0, .slice none 0 0, .slice none 0 0]
   clear g1
   go_cut [3] from 9 to 14 (fun s wx => ∃ g bR bD bL Q, s = .pointer (some ⟨g, 0, none⟩) /\ Q <= wx.heap.size /\ KN w wx (n : Int) wi le ke n g bR bD bL Q (.slice none 0 0))
   case first =>
    refine wp_region_noPanic ?_
    refine wp_region_held_drew (S := fun (w' : World) => w'.cell? ⟨w.heap.size, 0, none⟩ = some (.int .i64 (n : Int))) (by kernel_rfl) ?_ (fun hH => ?_)
    . exact I.b1.row4.1
    refine ztk [0,1] ?_; repeat (refine ztn (h := ?_); try simp only [zX,zY])
    refine zte ?_
    refine wpAnyH_ready (rs := [2, 3, 4, 6]) (by kernel_rfl) (by simp) (AllReadyH.cons rfl (fun K hK => ?_) (AllReadyH.cons rfl (fun K hK => ?_) (AllReadyH.cons rfl (fun K hK => ?_) (AllReadyH.cons rfl (fun K hK => ?_) AllReadyH.nil))))
    focus
     simp only [zG]
     go_simp
     have I := I.new0 (w1.heap.size) (by simp)
     refine hK.out _ _ I.b1.row4.1 fun hH => ?_; clear hK K; try simp only [zX,zY]
     refine zR3 3 4 6 (fun K hK => ?_) (fun K hK => ?_) (fun K hK => ?_)
     focus
      simp only [zG]
      go_simp
      have I := I.new1 (w1.heap.size + 1) (by simp)
      refine hK.out _ _ I.b1.row4.1 fun hH => ?_; clear hK K; try simp only [zX,zY]
      refine zR2 4 6 (fun K hK => ?_) (fun K hK => ?_)
      focus
       simp only [zG]
       go_simp
       have I := I.new2 (w1.heap.size + 1 + 1) (by simp)
       refine hK.out _ _ I.b1.row4.1 fun hH => ?_; clear hK K; try simp only [zX,zY]
       refine zt1 5 ?_; refine ztn (h := ?_); try simp only [zX,zY]
       refine zte ?_
       refine zR1 6 (fun K hK => ?_)
       simp only [zG]
       go_simp
       have I := I.new3 (w1.heap.size + 1 + 1 + 1) (by simp); have bG := I.g _ rfl; obtain ⟨r0, r1, r2, r3, r4, r5⟩ := bG.row6; have f0 := bG.thaw 0; have f1 := bG.thaw 1; have f2 := bG.thaw 2; have f3 := bG.thaw 3; have f4 := bG.thaw 4; have f5 := bG.thaw 5; have J1 := hidP (((((J.out (#[.slice (some ⟨w1.heap.size, 0, none⟩) n n, .slice none 0 0, .slice none 0 0, .int .i64 0, .slice (some ⟨w1.heap.size + 1, 0, none⟩) 4 4, .slice (some ⟨w1.heap.size + 1 + 1, 0, none⟩) 4 4])).new0 (w1.heap.size) (by simp)).new1 (w1.heap.size + 1) (by simp)).new2 (w1.heap.size + 1 + 1) (by simp)).new3 (w1.heap.size + 1 + 1 + 1) (by simp))
       refine hK.out _ _ I.b1.row4.1 fun hH => ?_; clear hK K; try simp only [zX,zY]
      rotate_left
      focus
       simp only [zG]
       go_simp
       have I := I.new3 (w1.heap.size + 1 + 1) (by simp)
       refine hK.out _ _ I.b1.row4.1 fun hH => ?_; clear hK K; try simp only [zX,zY]
       refine zR1 4 (fun K hK => ?_)
       simp only [zG]
       go_simp
       have I := I.new2 (w1.heap.size + 1 + 1 + 1) (by simp); have bG := I.g _ rfl; obtain ⟨r0, r1, r2, r3, r4, r5⟩ := bG.row6; have f0 := bG.thaw 0; have f1 := bG.thaw 1; have f2 := bG.thaw 2; have f3 := bG.thaw 3; have f4 := bG.thaw 4; have f5 := bG.thaw 5; have J1 := hidP (((((J.out (#[.slice (some ⟨w1.heap.size, 0, none⟩) n n, .slice none 0 0, .slice none 0 0, .int .i64 0, .slice (some ⟨w1.heap.size + 1, 0, none⟩) 4 4, .slice (some ⟨w1.heap.size + 1 + 1 + 1, 0, none⟩) 4 4])).new0 (w1.heap.size) (by simp)).new1 (w1.heap.size + 1) (by simp)).new3 (w1.heap.size + 1 + 1) (by simp)).new2 (w1.heap.size + 1 + 1 + 1) (by simp))
       refine hK.out _ _ I.b1.row4.1 fun hH => ?_; clear hK K; try simp only [zX,zY]
       refine zt1 5 ?_; refine ztn (h := ?_); try simp only [zX,zY]
       refine zte ?_
     rotate_left 2
     focus
      simp only [zG]
      go_simp
      have I := I.new2 (w1.heap.size + 1) (by simp)
      refine hK.out _ _ I.b1.row4.1 fun hH => ?_; clear hK K; try simp only [zX,zY]
      refine zR2 3 6 (fun K hK => ?_) (fun K hK => ?_)
      focus
       simp only [zG]
       go_simp
       have I := I.new1 (w1.heap.size + 1 + 1) (by simp)
       refine hK.out _ _ I.b1.row4.1 fun hH => ?_; clear hK K; try simp only [zX,zY]
       refine zt1 5 ?_; refine ztn (h := ?_); try simp only [zX,zY]
       refine zte ?_
       refine zR1 6 (fun K hK => ?_)
       simp only [zG]
       go_simp
       have I := I.new3 (w1.heap.size + 1 + 1 + 1) (by simp); have bG := I.g _ rfl; obtain ⟨r0, r1, r2, r3, r4, r5⟩ := bG.row6; have f0 := bG.thaw 0; have f1 := bG.thaw 1; have f2 := bG.thaw 2; have f3 := bG.thaw 3; have f4 := bG.thaw 4; have f5 := bG.thaw 5; have J1 := hidP (((((J.out (#[.slice (some ⟨w1.heap.size, 0, none⟩) n n, .slice none 0 0, .slice none 0 0, .int .i64 0, .slice (some ⟨w1.heap.size + 1 + 1, 0, none⟩) 4 4, .slice (some ⟨w1.heap.size + 1, 0, none⟩) 4 4])).new0 (w1.heap.size) (by simp)).new2 (w1.heap.size + 1) (by simp)).new1 (w1.heap.size + 1 + 1) (by simp)).new3 (w1.heap.size + 1 + 1 + 1) (by simp))
       refine hK.out _ _ I.b1.row4.1 fun hH => ?_; clear hK K; try simp only [zX,zY]
      rotate_left
      focus
       simp only [zG]
       go_simp
       have I := I.new3 (w1.heap.size + 1 + 1) (by simp)
       refine hK.out _ _ I.b1.row4.1 fun hH => ?_; clear hK K; try simp only [zX,zY]
       refine zR1 3 (fun K hK => ?_)
       simp only [zG]
       go_simp
       have I := I.new1 (w1.heap.size + 1 + 1 + 1) (by simp); have bG := I.g _ rfl; obtain ⟨r0, r1, r2, r3, r4, r5⟩ := bG.row6; have f0 := bG.thaw 0; have f1 := bG.thaw 1; have f2 := bG.thaw 2; have f3 := bG.thaw 3; have f4 := bG.thaw 4; have f5 := bG.thaw 5; have J1 := hidP (((((J.out (#[.slice (some ⟨w1.heap.size, 0, none⟩) n n, .slice none 0 0, .slice none 0 0, .int .i64 0, .slice (some ⟨w1.heap.size + 1 + 1 + 1, 0, none⟩) 4 4, .slice (some ⟨w1.heap.size + 1, 0, none⟩) 4 4])).new0 (w1.heap.size) (by simp)).new2 (w1.heap.size + 1) (by simp)).new3 (w1.heap.size + 1 + 1) (by simp)).new1 (w1.heap.size + 1 + 1 + 1) (by simp))
       refine hK.out _ _ I.b1.row4.1 fun hH => ?_; clear hK K; try simp only [zX,zY]
       refine zt1 5 ?_; refine ztn (h := ?_); try simp only [zX,zY]
       refine zte ?_
     rotate_left 2
     focus
      simp only [zG]
      go_simp
      have I := I.new3 (w1.heap.size + 1) (by simp)
      refine hK.out _ _ I.b1.row4.1 fun hH => ?_; clear hK K; try simp only [zX,zY]
      refine zR2 3 4 (fun K hK => ?_) (fun K hK => ?_)
      focus
       simp only [zG]
       go_simp
       have I := I.new1 (w1.heap.size + 1 + 1) (by simp)
       refine hK.out _ _ I.b1.row4.1 fun hH => ?_; clear hK K; try simp only [zX,zY]
       refine zR1 4 (fun K hK => ?_)
       simp only [zG]
       go_simp
       have I := I.new2 (w1.heap.size + 1 + 1 + 1) (by simp); have bG := I.g _ rfl; obtain ⟨r0, r1, r2, r3, r4, r5⟩ := bG.row6; have f0 := bG.thaw 0; have f1 := bG.thaw 1; have f2 := bG.thaw 2; have f3 := bG.thaw 3; have f4 := bG.thaw 4; have f5 := bG.thaw 5; have J1 := hidP (((((J.out (#[.slice (some ⟨w1.heap.size, 0, none⟩) n n, .slice none 0 0, .slice none 0 0, .int .i64 0, .slice (some ⟨w1.heap.size + 1 + 1, 0, none⟩) 4 4, .slice (some ⟨w1.heap.size + 1 + 1 + 1, 0, none⟩) 4 4])).new0 (w1.heap.size) (by simp)).new3 (w1.heap.size + 1) (by simp)).new1 (w1.heap.size + 1 + 1) (by simp)).new2 (w1.heap.size + 1 + 1 + 1) (by simp))
       refine hK.out _ _ I.b1.row4.1 fun hH => ?_; clear hK K; try simp only [zX,zY]
       refine zt1 5 ?_; refine ztn (h := ?_); try simp only [zX,zY]
       refine zte ?_
      rotate_left
      focus
       simp only [zG]
       go_simp
       have I := I.new2 (w1.heap.size + 1 + 1) (by simp)
       refine hK.out _ _ I.b1.row4.1 fun hH => ?_; clear hK K; try simp only [zX,zY]
       refine zR1 3 (fun K hK => ?_)
       simp only [zG]
       go_simp
       have I := I.new1 (w1.heap.size + 1 + 1 + 1) (by simp); have bG := I.g _ rfl; obtain ⟨r0, r1, r2, r3, r4, r5⟩ := bG.row6; have f0 := bG.thaw 0; have f1 := bG.thaw 1; have f2 := bG.thaw 2; have f3 := bG.thaw 3; have f4 := bG.thaw 4; have f5 := bG.thaw 5; have J1 := hidP (((((J.out (#[.slice (some ⟨w1.heap.size, 0, none⟩) n n, .slice none 0 0, .slice none 0 0, .int .i64 0, .slice (some ⟨w1.heap.size + 1 + 1 + 1, 0, none⟩) 4 4, .slice (some ⟨w1.heap.size + 1 + 1, 0, none⟩) 4 4])).new0 (w1.heap.size) (by simp)).new3 (w1.heap.size + 1) (by simp)).new2 (w1.heap.size + 1 + 1) (by simp)).new1 (w1.heap.size + 1 + 1 + 1) (by simp))
       refine hK.out _ _ I.b1.row4.1 fun hH => ?_; clear hK K; try simp only [zX,zY]
       refine zt1 5 ?_; refine ztn (h := ?_); try simp only [zX,zY]
       refine zte ?_
    rotate_left 6
    focus
     simp only [zG]
     go_simp
     have I := I.new1 (w1.heap.size) (by simp)
     refine hK.out _ _ I.b1.row4.1 fun hH => ?_; clear hK K; try simp only [zX,zY]
     refine zR3 2 4 6 (fun K hK => ?_) (fun K hK => ?_) (fun K hK => ?_)
     focus
      simp only [zG]
      go_simp
      have I := I.new0 (w1.heap.size + 1) (by simp)
      refine hK.out _ _ I.b1.row4.1 fun hH => ?_; clear hK K; try simp only [zX,zY]
      refine zR2 4 6 (fun K hK => ?_) (fun K hK => ?_)
      focus
       simp only [zG]
       go_simp
       have I := I.new2 (w1.heap.size + 1 + 1) (by simp)
       refine hK.out _ _ I.b1.row4.1 fun hH => ?_; clear hK K; try simp only [zX,zY]
       refine zt1 5 ?_; refine ztn (h := ?_); try simp only [zX,zY]
       refine zte ?_
       refine zR1 6 (fun K hK => ?_)
       simp only [zG]
       go_simp
       have I := I.new3 (w1.heap.size + 1 + 1 + 1) (by simp); have bG := I.g _ rfl; obtain ⟨r0, r1, r2, r3, r4, r5⟩ := bG.row6; have f0 := bG.thaw 0; have f1 := bG.thaw 1; have f2 := bG.thaw 2; have f3 := bG.thaw 3; have f4 := bG.thaw 4; have f5 := bG.thaw 5; have J1 := hidP (((((J.out (#[.slice (some ⟨w1.heap.size + 1, 0, none⟩) n n, .slice none 0 0, .slice none 0 0, .int .i64 0, .slice (some ⟨w1.heap.size, 0, none⟩) 4 4, .slice (some ⟨w1.heap.size + 1 + 1, 0, none⟩) 4 4])).new1 (w1.heap.size) (by simp)).new0 (w1.heap.size + 1) (by simp)).new2 (w1.heap.size + 1 + 1) (by simp)).new3 (w1.heap.size + 1 + 1 + 1) (by simp))
       refine hK.out _ _ I.b1.row4.1 fun hH => ?_; clear hK K; try simp only [zX,zY]
      rotate_left
      focus
       simp only [zG]
       go_simp
       have I := I.new3 (w1.heap.size + 1 + 1) (by simp)
       refine hK.out _ _ I.b1.row4.1 fun hH => ?_; clear hK K; try simp only [zX,zY]
       refine zR1 4 (fun K hK => ?_)
       simp only [zG]
       go_simp
       have I := I.new2 (w1.heap.size + 1 + 1 + 1) (by simp); have bG := I.g _ rfl; obtain ⟨r0, r1, r2, r3, r4, r5⟩ := bG.row6; have f0 := bG.thaw 0; have f1 := bG.thaw 1; have f2 := bG.thaw 2; have f3 := bG.thaw 3; have f4 := bG.thaw 4; have f5 := bG.thaw 5; have J1 := hidP (((((J.out (#[.slice (some ⟨w1.heap.size + 1, 0, none⟩) n n, .slice none 0 0, .slice none 0 0, .int .i64 0, .slice (some ⟨w1.heap.size, 0, none⟩) 4 4, .slice (some ⟨w1.heap.size + 1 + 1 + 1, 0, none⟩) 4 4])).new1 (w1.heap.size) (by simp)).new0 (w1.heap.size + 1) (by simp)).new3 (w1.heap.size + 1 + 1) (by simp)).new2 (w1.heap.size + 1 + 1 + 1) (by simp))
       refine hK.out _ _ I.b1.row4.1 fun hH => ?_; clear hK K; try simp only [zX,zY]
       refine zt1 5 ?_; refine ztn (h := ?_); try simp only [zX,zY]
       refine zte ?_
     rotate_left 2
     focus
      simp only [zG]
      go_simp
      have I := I.new2 (w1.heap.size + 1) (by simp)
      refine hK.out _ _ I.b1.row4.1 fun hH => ?_; clear hK K; try simp only [zX,zY]
      refine zR2 2 6 (fun K hK => ?_) (fun K hK => ?_)
      focus
       simp only [zG]
       go_simp
       have I := I.new0 (w1.heap.size + 1 + 1) (by simp)
       refine hK.out _ _ I.b1.row4.1 fun hH => ?_; clear hK K; try simp only [zX,zY]
       refine zt1 5 ?_; refine ztn (h := ?_); try simp only [zX,zY]
       refine zte ?_
       refine zR1 6 (fun K hK => ?_)
       simp only [zG]
       go_simp
       have I := I.new3 (w1.heap.size + 1 + 1 + 1) (by simp); have bG := I.g _ rfl; obtain ⟨r0, r1, r2, r3, r4, r5⟩ := bG.row6; have f0 := bG.thaw 0; have f1 := bG.thaw 1; have f2 := bG.thaw 2; have f3 := bG.thaw 3; have f4 := bG.thaw 4; have f5 := bG.thaw 5; have J1 := hidP (((((J.out (#[.slice (some ⟨w1.heap.size + 1 + 1, 0, none⟩) n n, .slice none 0 0, .slice none 0 0, .int .i64 0, .slice (some ⟨w1.heap.size, 0, none⟩) 4 4, .slice (some ⟨w1.heap.size + 1, 0, none⟩) 4 4])).new1 (w1.heap.size) (by simp)).new2 (w1.heap.size + 1) (by simp)).new0 (w1.heap.size + 1 + 1) (by simp)).new3 (w1.heap.size + 1 + 1 + 1) (by simp))
       refine hK.out _ _ I.b1.row4.1 fun hH => ?_; clear hK K; try simp only [zX,zY]
      rotate_left
      focus
       simp only [zG]
       go_simp
       have I := I.new3 (w1.heap.size + 1 + 1) (by simp)
       refine hK.out _ _ I.b1.row4.1 fun hH => ?_; clear hK K; try simp only [zX,zY]
       refine zR1 2 (fun K hK => ?_)
       simp only [zG]
       go_simp
       have I := I.new0 (w1.heap.size + 1 + 1 + 1) (by simp); have bG := I.g _ rfl; obtain ⟨r0, r1, r2, r3, r4, r5⟩ := bG.row6; have f0 := bG.thaw 0; have f1 := bG.thaw 1; have f2 := bG.thaw 2; have f3 := bG.thaw 3; have f4 := bG.thaw 4; have f5 := bG.thaw 5; have J1 := hidP (((((J.out (#[.slice (some ⟨w1.heap.size + 1 + 1 + 1, 0, none⟩) n n, .slice none 0 0, .slice none 0 0, .int .i64 0, .slice (some ⟨w1.heap.size, 0, none⟩) 4 4, .slice (some ⟨w1.heap.size + 1, 0, none⟩) 4 4])).new1 (w1.heap.size) (by simp)).new2 (w1.heap.size + 1) (by simp)).new3 (w1.heap.size + 1 + 1) (by simp)).new0 (w1.heap.size + 1 + 1 + 1) (by simp))
       refine hK.out _ _ I.b1.row4.1 fun hH => ?_; clear hK K; try simp only [zX,zY]
       refine zt1 5 ?_; refine ztn (h := ?_); try simp only [zX,zY]
       refine zte ?_
     rotate_left 2
     focus
      simp only [zG]
      go_simp
      have I := I.new3 (w1.heap.size + 1) (by simp)
      refine hK.out _ _ I.b1.row4.1 fun hH => ?_; clear hK K; try simp only [zX,zY]
      refine zR2 2 4 (fun K hK => ?_) (fun K hK => ?_)
      focus
       simp only [zG]
       go_simp
       have I := I.new0 (w1.heap.size + 1 + 1) (by simp)
       refine hK.out _ _ I.b1.row4.1 fun hH => ?_; clear hK K; try simp only [zX,zY]
       refine zR1 4 (fun K hK => ?_)
       simp only [zG]
       go_simp
       have I := I.new2 (w1.heap.size + 1 + 1 + 1) (by simp); have bG := I.g _ rfl; obtain ⟨r0, r1, r2, r3, r4, r5⟩ := bG.row6; have f0 := bG.thaw 0; have f1 := bG.thaw 1; have f2 := bG.thaw 2; have f3 := bG.thaw 3; have f4 := bG.thaw 4; have f5 := bG.thaw 5; have J1 := hidP (((((J.out (#[.slice (some ⟨w1.heap.size + 1 + 1, 0, none⟩) n n, .slice none 0 0, .slice none 0 0, .int .i64 0, .slice (some ⟨w1.heap.size, 0, none⟩) 4 4, .slice (some ⟨w1.heap.size + 1 + 1 + 1, 0, none⟩) 4 4])).new1 (w1.heap.size) (by simp)).new3 (w1.heap.size + 1) (by simp)).new0 (w1.heap.size + 1 + 1) (by simp)).new2 (w1.heap.size + 1 + 1 + 1) (by simp))
       refine hK.out _ _ I.b1.row4.1 fun hH => ?_; clear hK K; try simp only [zX,zY]
       refine zt1 5 ?_; refine ztn (h := ?_); try simp only [zX,zY]
       refine zte ?_
      rotate_left
      focus
       simp only [zG]
       go_simp
       have I := I.new2 (w1.heap.size + 1 + 1) (by simp)
       refine hK.out _ _ I.b1.row4.1 fun hH => ?_; clear hK K; try simp only [zX,zY]
       refine zR1 2 (fun K hK => ?_)
       simp only [zG]
       go_simp
       have I := I.new0 (w1.heap.size + 1 + 1 + 1) (by simp); have bG := I.g _ rfl; obtain ⟨r0, r1, r2, r3, r4, r5⟩ := bG.row6; have f0 := bG.thaw 0; have f1 := bG.thaw 1; have f2 := bG.thaw 2; have f3 := bG.thaw 3; have f4 := bG.thaw 4; have f5 := bG.thaw 5; have J1 := hidP (((((J.out (#[.slice (some ⟨w1.heap.size + 1 + 1 + 1, 0, none⟩) n n, .slice none 0 0, .slice none 0 0, .int .i64 0, .slice (some ⟨w1.heap.size, 0, none⟩) 4 4, .slice (some ⟨w1.heap.size + 1 + 1, 0, none⟩) 4 4])).new1 (w1.heap.size) (by simp)).new3 (w1.heap.size + 1) (by simp)).new2 (w1.heap.size + 1 + 1) (by simp)).new0 (w1.heap.size + 1 + 1 + 1) (by simp))
       refine hK.out _ _ I.b1.row4.1 fun hH => ?_; clear hK K; try simp only [zX,zY]
       refine zt1 5 ?_; refine ztn (h := ?_); try simp only [zX,zY]
       refine zte ?_
    rotate_left 6
    focus
     simp only [zG]
     go_simp
     have I := I.new2 (w1.heap.size) (by simp)
     refine hK.out _ _ I.b1.row4.1 fun hH => ?_; clear hK K; try simp only [zX,zY]
     refine zR3 2 3 6 (fun K hK => ?_) (fun K hK => ?_) (fun K hK => ?_)
     focus
      simp only [zG]
      go_simp
      have I := I.new0 (w1.heap.size + 1) (by simp)
      refine hK.out _ _ I.b1.row4.1 fun hH => ?_; clear hK K; try simp only [zX,zY]
      refine zR2 3 6 (fun K hK => ?_) (fun K hK => ?_)
      focus
       simp only [zG]
       go_simp
       have I := I.new1 (w1.heap.size + 1 + 1) (by simp)
       refine hK.out _ _ I.b1.row4.1 fun hH => ?_; clear hK K; try simp only [zX,zY]
       refine zt1 5 ?_; refine ztn (h := ?_); try simp only [zX,zY]
       refine zte ?_
       refine zR1 6 (fun K hK => ?_)
       simp only [zG]
       go_simp
       have I := I.new3 (w1.heap.size + 1 + 1 + 1) (by simp); have bG := I.g _ rfl; obtain ⟨r0, r1, r2, r3, r4, r5⟩ := bG.row6; have f0 := bG.thaw 0; have f1 := bG.thaw 1; have f2 := bG.thaw 2; have f3 := bG.thaw 3; have f4 := bG.thaw 4; have f5 := bG.thaw 5; have J1 := hidP (((((J.out (#[.slice (some ⟨w1.heap.size + 1, 0, none⟩) n n, .slice none 0 0, .slice none 0 0, .int .i64 0, .slice (some ⟨w1.heap.size + 1 + 1, 0, none⟩) 4 4, .slice (some ⟨w1.heap.size, 0, none⟩) 4 4])).new2 (w1.heap.size) (by simp)).new0 (w1.heap.size + 1) (by simp)).new1 (w1.heap.size + 1 + 1) (by simp)).new3 (w1.heap.size + 1 + 1 + 1) (by simp))
       refine hK.out _ _ I.b1.row4.1 fun hH => ?_; clear hK K; try simp only [zX,zY]
      rotate_left
      focus
       simp only [zG]
       go_simp
       have I := I.new3 (w1.heap.size + 1 + 1) (by simp)
       refine hK.out _ _ I.b1.row4.1 fun hH => ?_; clear hK K; try simp only [zX,zY]
       refine zR1 3 (fun K hK => ?_)
       simp only [zG]
       go_simp
       have I := I.new1 (w1.heap.size + 1 + 1 + 1) (by simp); have bG := I.g _ rfl; obtain ⟨r0, r1, r2, r3, r4, r5⟩ := bG.row6; have f0 := bG.thaw 0; have f1 := bG.thaw 1; have f2 := bG.thaw 2; have f3 := bG.thaw 3; have f4 := bG.thaw 4; have f5 := bG.thaw 5; have J1 := hidP (((((J.out (#[.slice (some ⟨w1.heap.size + 1, 0, none⟩) n n, .slice none 0 0, .slice none 0 0, .int .i64 0, .slice (some ⟨w1.heap.size + 1 + 1 + 1, 0, none⟩) 4 4, .slice (some ⟨w1.heap.size, 0, none⟩) 4 4])).new2 (w1.heap.size) (by simp)).new0 (w1.heap.size + 1) (by simp)).new3 (w1.heap.size + 1 + 1) (by simp)).new1 (w1.heap.size + 1 + 1 + 1) (by simp))
       refine hK.out _ _ I.b1.row4.1 fun hH => ?_; clear hK K; try simp only [zX,zY]
       refine zt1 5 ?_; refine ztn (h := ?_); try simp only [zX,zY]
       refine zte ?_
     rotate_left 2
     focus
      simp only [zG]
      go_simp
      have I := I.new1 (w1.heap.size + 1) (by simp)
      refine hK.out _ _ I.b1.row4.1 fun hH => ?_; clear hK K; try simp only [zX,zY]
      refine zR2 2 6 (fun K hK => ?_) (fun K hK => ?_)
      focus
       simp only [zG]
       go_simp
       have I := I.new0 (w1.heap.size + 1 + 1) (by simp)
       refine hK.out _ _ I.b1.row4.1 fun hH => ?_; clear hK K; try simp only [zX,zY]
       refine zt1 5 ?_; refine ztn (h := ?_); try simp only [zX,zY]
       refine zte ?_
       refine zR1 6 (fun K hK => ?_)
       simp only [zG]
       go_simp
       have I := I.new3 (w1.heap.size + 1 + 1 + 1) (by simp); have bG := I.g _ rfl; obtain ⟨r0, r1, r2, r3, r4, r5⟩ := bG.row6; have f0 := bG.thaw 0; have f1 := bG.thaw 1; have f2 := bG.thaw 2; have f3 := bG.thaw 3; have f4 := bG.thaw 4; have f5 := bG.thaw 5; have J1 := hidP (((((J.out (#[.slice (some ⟨w1.heap.size + 1 + 1, 0, none⟩) n n, .slice none 0 0, .slice none 0 0, .int .i64 0, .slice (some ⟨w1.heap.size + 1, 0, none⟩) 4 4, .slice (some ⟨w1.heap.size, 0, none⟩) 4 4])).new2 (w1.heap.size) (by simp)).new1 (w1.heap.size + 1) (by simp)).new0 (w1.heap.size + 1 + 1) (by simp)).new3 (w1.heap.size + 1 + 1 + 1) (by simp))
       refine hK.out _ _ I.b1.row4.1 fun hH => ?_; clear hK K; try simp only [zX,zY]
      rotate_left
      focus
       simp only [zG]
       go_simp
       have I := I.new3 (w1.heap.size + 1 + 1) (by simp)
       refine hK.out _ _ I.b1.row4.1 fun hH => ?_; clear hK K; try simp only [zX,zY]
       refine zR1 2 (fun K hK => ?_)
       simp only [zG]
       go_simp
       have I := I.new0 (w1.heap.size + 1 + 1 + 1) (by simp); have bG := I.g _ rfl; obtain ⟨r0, r1, r2, r3, r4, r5⟩ := bG.row6; have f0 := bG.thaw 0; have f1 := bG.thaw 1; have f2 := bG.thaw 2; have f3 := bG.thaw 3; have f4 := bG.thaw 4; have f5 := bG.thaw 5; have J1 := hidP (((((J.out (#[.slice (some ⟨w1.heap.size + 1 + 1 + 1, 0, none⟩) n n, .slice none 0 0, .slice none 0 0, .int .i64 0, .slice (some ⟨w1.heap.size + 1, 0, none⟩) 4 4, .slice (some ⟨w1.heap.size, 0, none⟩) 4 4])).new2 (w1.heap.size) (by simp)).new1 (w1.heap.size + 1) (by simp)).new3 (w1.heap.size + 1 + 1) (by simp)).new0 (w1.heap.size + 1 + 1 + 1) (by simp))
       refine hK.out _ _ I.b1.row4.1 fun hH => ?_; clear hK K; try simp only [zX,zY]
       refine zt1 5 ?_; refine ztn (h := ?_); try simp only [zX,zY]
       refine zte ?_
     rotate_left 2
     focus
      simp only [zG]
      go_simp
      have I := I.new3 (w1.heap.size + 1) (by simp)
      refine hK.out _ _ I.b1.row4.1 fun hH => ?_; clear hK K; try simp only [zX,zY]
      refine zR2 2 3 (fun K hK => ?_) (fun K hK => ?_)
      focus
       simp only [zG]
       go_simp
       have I := I.new0 (w1.heap.size + 1 + 1) (by simp)
       refine hK.out _ _ I.b1.row4.1 fun hH => ?_; clear hK K; try simp only [zX,zY]
       refine zR1 3 (fun K hK => ?_)
       simp only [zG]
       go_simp
       have I := I.new1 (w1.heap.size + 1 + 1 + 1) (by simp); have bG := I.g _ rfl; obtain ⟨r0, r1, r2, r3, r4, r5⟩ := bG.row6; have f0 := bG.thaw 0; have f1 := bG.thaw 1; have f2 := bG.thaw 2; have f3 := bG.thaw 3; have f4 := bG.thaw 4; have f5 := bG.thaw 5; have J1 := hidP (((((J.out (#[.slice (some ⟨w1.heap.size + 1 + 1, 0, none⟩) n n, .slice none 0 0, .slice none 0 0, .int .i64 0, .slice (some ⟨w1.heap.size + 1 + 1 + 1, 0, none⟩) 4 4, .slice (some ⟨w1.heap.size, 0, none⟩) 4 4])).new2 (w1.heap.size) (by simp)).new3 (w1.heap.size + 1) (by simp)).new0 (w1.heap.size + 1 + 1) (by simp)).new1 (w1.heap.size + 1 + 1 + 1) (by simp))
       refine hK.out _ _ I.b1.row4.1 fun hH => ?_; clear hK K; try simp only [zX,zY]
       refine zt1 5 ?_; refine ztn (h := ?_); try simp only [zX,zY]
       refine zte ?_
      rotate_left
      focus
       simp only [zG]
       go_simp
       have I := I.new1 (w1.heap.size + 1 + 1) (by simp)
       refine hK.out _ _ I.b1.row4.1 fun hH => ?_; clear hK K; try simp only [zX,zY]
       refine zR1 2 (fun K hK => ?_)
       simp only [zG]
       go_simp
       have I := I.new0 (w1.heap.size + 1 + 1 + 1) (by simp); have bG := I.g _ rfl; obtain ⟨r0, r1, r2, r3, r4, r5⟩ := bG.row6; have f0 := bG.thaw 0; have f1 := bG.thaw 1; have f2 := bG.thaw 2; have f3 := bG.thaw 3; have f4 := bG.thaw 4; have f5 := bG.thaw 5; have J1 := hidP (((((J.out (#[.slice (some ⟨w1.heap.size + 1 + 1 + 1, 0, none⟩) n n, .slice none 0 0, .slice none 0 0, .int .i64 0, .slice (some ⟨w1.heap.size + 1 + 1, 0, none⟩) 4 4, .slice (some ⟨w1.heap.size, 0, none⟩) 4 4])).new2 (w1.heap.size) (by simp)).new3 (w1.heap.size + 1) (by simp)).new1 (w1.heap.size + 1 + 1) (by simp)).new0 (w1.heap.size + 1 + 1 + 1) (by simp))
       refine hK.out _ _ I.b1.row4.1 fun hH => ?_; clear hK K; try simp only [zX,zY]
       refine zt1 5 ?_; refine ztn (h := ?_); try simp only [zX,zY]
       refine zte ?_
    rotate_left 6
    focus
     simp only [zG]
     go_simp
     have I := I.new3 (w1.heap.size) (by simp)
     refine hK.out _ _ I.b1.row4.1 fun hH => ?_; clear hK K; try simp only [zX,zY]
     refine zR3 2 3 4 (fun K hK => ?_) (fun K hK => ?_) (fun K hK => ?_)
     focus
      simp only [zG]
      go_simp
      have I := I.new0 (w1.heap.size + 1) (by simp)
      refine hK.out _ _ I.b1.row4.1 fun hH => ?_; clear hK K; try simp only [zX,zY]
      refine zR2 3 4 (fun K hK => ?_) (fun K hK => ?_)
      focus
       simp only [zG]
       go_simp
       have I := I.new1 (w1.heap.size + 1 + 1) (by simp)
       refine hK.out _ _ I.b1.row4.1 fun hH => ?_; clear hK K; try simp only [zX,zY]
       refine zR1 4 (fun K hK => ?_)
       simp only [zG]
       go_simp
       have I := I.new2 (w1.heap.size + 1 + 1 + 1) (by simp); have bG := I.g _ rfl; obtain ⟨r0, r1, r2, r3, r4, r5⟩ := bG.row6; have f0 := bG.thaw 0; have f1 := bG.thaw 1; have f2 := bG.thaw 2; have f3 := bG.thaw 3; have f4 := bG.thaw 4; have f5 := bG.thaw 5; have J1 := hidP (((((J.out (#[.slice (some ⟨w1.heap.size + 1, 0, none⟩) n n, .slice none 0 0, .slice none 0 0, .int .i64 0, .slice (some ⟨w1.heap.size + 1 + 1, 0, none⟩) 4 4, .slice (some ⟨w1.heap.size + 1 + 1 + 1, 0, none⟩) 4 4])).new3 (w1.heap.size) (by simp)).new0 (w1.heap.size + 1) (by simp)).new1 (w1.heap.size + 1 + 1) (by simp)).new2 (w1.heap.size + 1 + 1 + 1) (by simp))
       refine hK.out _ _ I.b1.row4.1 fun hH => ?_; clear hK K; try simp only [zX,zY]
       refine zt1 5 ?_; refine ztn (h := ?_); try simp only [zX,zY]
       refine zte ?_
      rotate_left
      focus
       simp only [zG]
       go_simp
       have I := I.new2 (w1.heap.size + 1 + 1) (by simp)
       refine hK.out _ _ I.b1.row4.1 fun hH => ?_; clear hK K; try simp only [zX,zY]
       refine zR1 3 (fun K hK => ?_)
       simp only [zG]
       go_simp
       have I := I.new1 (w1.heap.size + 1 + 1 + 1) (by simp); have bG := I.g _ rfl; obtain ⟨r0, r1, r2, r3, r4, r5⟩ := bG.row6; have f0 := bG.thaw 0; have f1 := bG.thaw 1; have f2 := bG.thaw 2; have f3 := bG.thaw 3; have f4 := bG.thaw 4; have f5 := bG.thaw 5; have J1 := hidP (((((J.out (#[.slice (some ⟨w1.heap.size + 1, 0, none⟩) n n, .slice none 0 0, .slice none 0 0, .int .i64 0, .slice (some ⟨w1.heap.size + 1 + 1 + 1, 0, none⟩) 4 4, .slice (some ⟨w1.heap.size + 1 + 1, 0, none⟩) 4 4])).new3 (w1.heap.size) (by simp)).new0 (w1.heap.size + 1) (by simp)).new2 (w1.heap.size + 1 + 1) (by simp)).new1 (w1.heap.size + 1 + 1 + 1) (by simp))
       refine hK.out _ _ I.b1.row4.1 fun hH => ?_; clear hK K; try simp only [zX,zY]
       refine zt1 5 ?_; refine ztn (h := ?_); try simp only [zX,zY]
       refine zte ?_
     rotate_left 2
     focus
      simp only [zG]
      go_simp
      have I := I.new1 (w1.heap.size + 1) (by simp)
      refine hK.out _ _ I.b1.row4.1 fun hH => ?_; clear hK K; try simp only [zX,zY]
      refine zR2 2 4 (fun K hK => ?_) (fun K hK => ?_)
      focus
       simp only [zG]
       go_simp
       have I := I.new0 (w1.heap.size + 1 + 1) (by simp)
       refine hK.out _ _ I.b1.row4.1 fun hH => ?_; clear hK K; try simp only [zX,zY]
       refine zR1 4 (fun K hK => ?_)
       simp only [zG]
       go_simp
       have I := I.new2 (w1.heap.size + 1 + 1 + 1) (by simp); have bG := I.g _ rfl; obtain ⟨r0, r1, r2, r3, r4, r5⟩ := bG.row6; have f0 := bG.thaw 0; have f1 := bG.thaw 1; have f2 := bG.thaw 2; have f3 := bG.thaw 3; have f4 := bG.thaw 4; have f5 := bG.thaw 5; have J1 := hidP (((((J.out (#[.slice (some ⟨w1.heap.size + 1 + 1, 0, none⟩) n n, .slice none 0 0, .slice none 0 0, .int .i64 0, .slice (some ⟨w1.heap.size + 1, 0, none⟩) 4 4, .slice (some ⟨w1.heap.size + 1 + 1 + 1, 0, none⟩) 4 4])).new3 (w1.heap.size) (by simp)).new1 (w1.heap.size + 1) (by simp)).new0 (w1.heap.size + 1 + 1) (by simp)).new2 (w1.heap.size + 1 + 1 + 1) (by simp))
       refine hK.out _ _ I.b1.row4.1 fun hH => ?_; clear hK K; try simp only [zX,zY]
       refine zt1 5 ?_; refine ztn (h := ?_); try simp only [zX,zY]
       refine zte ?_
      rotate_left
      focus
       simp only [zG]
       go_simp
       have I := I.new2 (w1.heap.size + 1 + 1) (by simp)
       refine hK.out _ _ I.b1.row4.1 fun hH => ?_; clear hK K; try simp only [zX,zY]
       refine zR1 2 (fun K hK => ?_)
       simp only [zG]
       go_simp
       have I := I.new0 (w1.heap.size + 1 + 1 + 1) (by simp); have bG := I.g _ rfl; obtain ⟨r0, r1, r2, r3, r4, r5⟩ := bG.row6; have f0 := bG.thaw 0; have f1 := bG.thaw 1; have f2 := bG.thaw 2; have f3 := bG.thaw 3; have f4 := bG.thaw 4; have f5 := bG.thaw 5; have J1 := hidP (((((J.out (#[.slice (some ⟨w1.heap.size + 1 + 1 + 1, 0, none⟩) n n, .slice none 0 0, .slice none 0 0, .int .i64 0, .slice (some ⟨w1.heap.size + 1, 0, none⟩) 4 4, .slice (some ⟨w1.heap.size + 1 + 1, 0, none⟩) 4 4])).new3 (w1.heap.size) (by simp)).new1 (w1.heap.size + 1) (by simp)).new2 (w1.heap.size + 1 + 1) (by simp)).new0 (w1.heap.size + 1 + 1 + 1) (by simp))
       refine hK.out _ _ I.b1.row4.1 fun hH => ?_; clear hK K; try simp only [zX,zY]
       refine zt1 5 ?_; refine ztn (h := ?_); try simp only [zX,zY]
       refine zte ?_
     rotate_left 2
     focus
      simp only [zG]
      go_simp
      have I := I.new2 (w1.heap.size + 1) (by simp)
      refine hK.out _ _ I.b1.row4.1 fun hH => ?_; clear hK K; try simp only [zX,zY]
      refine zR2 2 3 (fun K hK => ?_) (fun K hK => ?_)
      focus
       simp only [zG]
       go_simp
       have I := I.new0 (w1.heap.size + 1 + 1) (by simp)
       refine hK.out _ _ I.b1.row4.1 fun hH => ?_; clear hK K; try simp only [zX,zY]
       refine zR1 3 (fun K hK => ?_)
       simp only [zG]
       go_simp
       have I := I.new1 (w1.heap.size + 1 + 1 + 1) (by simp); have bG := I.g _ rfl; obtain ⟨r0, r1, r2, r3, r4, r5⟩ := bG.row6; have f0 := bG.thaw 0; have f1 := bG.thaw 1; have f2 := bG.thaw 2; have f3 := bG.thaw 3; have f4 := bG.thaw 4; have f5 := bG.thaw 5; have J1 := hidP (((((J.out (#[.slice (some ⟨w1.heap.size + 1 + 1, 0, none⟩) n n, .slice none 0 0, .slice none 0 0, .int .i64 0, .slice (some ⟨w1.heap.size + 1 + 1 + 1, 0, none⟩) 4 4, .slice (some ⟨w1.heap.size + 1, 0, none⟩) 4 4])).new3 (w1.heap.size) (by simp)).new2 (w1.heap.size + 1) (by simp)).new0 (w1.heap.size + 1 + 1) (by simp)).new1 (w1.heap.size + 1 + 1 + 1) (by simp))
       refine hK.out _ _ I.b1.row4.1 fun hH => ?_; clear hK K; try simp only [zX,zY]
       refine zt1 5 ?_; refine ztn (h := ?_); try simp only [zX,zY]
       refine zte ?_
      rotate_left
      focus
       simp only [zG]
       go_simp
       have I := I.new1 (w1.heap.size + 1 + 1) (by simp)
       refine hK.out _ _ I.b1.row4.1 fun hH => ?_; clear hK K; try simp only [zX,zY]
       refine zR1 2 (fun K hK => ?_)
       simp only [zG]
       go_simp
       have I := I.new0 (w1.heap.size + 1 + 1 + 1) (by simp); have bG := I.g _ rfl; obtain ⟨r0, r1, r2, r3, r4, r5⟩ := bG.row6; have f0 := bG.thaw 0; have f1 := bG.thaw 1; have f2 := bG.thaw 2; have f3 := bG.thaw 3; have f4 := bG.thaw 4; have f5 := bG.thaw 5; have J1 := hidP (((((J.out (#[.slice (some ⟨w1.heap.size + 1 + 1 + 1, 0, none⟩) n n, .slice none 0 0, .slice none 0 0, .int .i64 0, .slice (some ⟨w1.heap.size + 1 + 1, 0, none⟩) 4 4, .slice (some ⟨w1.heap.size + 1, 0, none⟩) 4 4])).new3 (w1.heap.size) (by simp)).new2 (w1.heap.size + 1) (by simp)).new1 (w1.heap.size + 1 + 1) (by simp)).new0 (w1.heap.size + 1 + 1 + 1) (by simp))
       refine hK.out _ _ I.b1.row4.1 fun hH => ?_; clear hK K; try simp only [zX,zY]
       refine zt1 5 ?_; refine ztn (h := ?_); try simp only [zX,zY]
       refine zte ?_
    all_goals
     refine zR1 7 (fun K hK => ?_)
     simp only [zG]
     go_simp
     refine hK.out _ _ J1.out.b1.row4.1 fun hH => ?_; clear hK K; try simp only [zX,zY]
     refine zdn ?_
     go_wp2_with fail
     go_meet
     exact ⟨_, _, _, _, _, rfl, by simp, (J1.out.done rfl rfl rfl rfl).below (Below.drew (Below.refl _ _))⟩
   case rest =>
    obtain ⟨g, bR, bD, bL, Q, rfl, hQ, K0⟩ := hcut
    have HK := hidP K0
    have HG := hidP (GL.nil wc (n : Int) Q hQ)
    clear K0 hQ I J hmR hmD hmL
    go_wp2
    go_loopw [4] (fun i W => ∃ (j : Nat) (a : Option Addr) (c : Nat) (gs : List GC) (fp : Nat -> Nat -> Prop), i = .int .i64 (j : Int) /\ j <= 2 /\ Hid (KN w W (n : Int) wi le ke n g bR bD bL Q (.slice a j c)) /\ Hid (GL W (n : Int) Q (.slice a j c) gs fp) /\ Hid (gs.length = j)) (fun i _ => 2 - (intOf i).toNat)
    case atStart => exact ⟨0, none, 0, [], _, rfl, by omega, HK, HG, rfl⟩
    case round =>
     obtain ⟨j, a, c, gs, fp, rfl, hj, hKn, hG, hl⟩ := hrel
     by_cases hlt : j < 2
     . have hS4 : (fun (w' : World) => w'.cell? ⟨g, 2, none⟩ = some (.slice a j c) /\ w'.cell? ⟨w.heap.size, 0, none⟩ = some (.int .i64 (n : Int))) wr.drew := ⟨hKn.out.bg.row6.2.2.1, hKn.out.b1.row4.1⟩
       go_wp2_with fail
       refine wp_region_noPanic ?_
       have hH : (fun (w' : World) => w'.cell? ⟨g, 2, none⟩ = some (.slice a j c) /\ w'.cell? ⟨w.heap.size, 0, none⟩ = some (.int .i64 (n : Int))) _ := hS4
       refine Qe5 8 (fun (w' : World) => w'.cell? ⟨g, 2, none⟩ = some (.slice a j c) /\ w'.cell? ⟨w.heap.size, 0, none⟩ = some (.int .i64 (n : Int))) (by kernel_rfl) ?_
       refine' Qbq (i := 0) (v := _) (by kernel_rfl) rfl (by kernel_rfl) (by decide) (by kernel_rfl) (by kernel_rfl) (by kernel_rfl) (fun _ _ _ h => h) (Or.inl ⟨by rfl, ?hy27⟩) (by assumption) ?rest27
       case hy27 => (intro w hSw; (try dsimp only at hSw); go_simp<;>with_reducible rfl)
       try simp only [zX,zY]
       refine' Qbq (i := 1) (v := _) (by kernel_rfl) rfl (by kernel_rfl) (by decide) (by kernel_rfl) (by kernel_rfl) (by kernel_rfl) (fun _ _ _ h => h) (Or.inl ⟨by rfl, ?hy28⟩) (by assumption) ?rest28
       case hy28 => (intro w hSw; (try dsimp only at hSw); go_simp<;>with_reducible rfl)
       try simp only [zX,zY]
       refine' Qbq (i := 2) (v := _) (by kernel_rfl) rfl (by kernel_rfl) (by decide) (by kernel_rfl) (by kernel_rfl) (by kernel_rfl) (fun _ _ _ h => h) (Or.inl ⟨by rfl, ?hy29⟩) (by assumption) ?rest29
       case hy29 => (intro w hSw; (try dsimp only at hSw); go_simp<;>with_reducible rfl)
       try simp only [zX,zY]
       refine' Qbq (i := 3) (v := _) (by kernel_rfl) rfl (by kernel_rfl) (by decide) (by kernel_rfl) (by kernel_rfl) (by kernel_rfl) (fun _ _ _ h => h) (Or.inl ⟨by rfl, ?hy30⟩) (by assumption) ?rest30
       case hy30 => (intro w hSw; (try dsimp only at hSw); go_simp<;>with_reducible rfl)
       try simp only [zX,zY]
       refine Qb5 (i := 4) (by kernel_rfl) rfl (fun K hK => ?_)
       simp only [zG]
       go_simp; go_at_call 38; refine (Qjt (n : Int) _).mono ?_; rintro e w2 ⟨xa, xc, F, rfl, g2, hGp, hF⟩; have gB : Below wr.heap.size wr w2 := via0 g2 (Below.drew (Below.refl _ _)); have hF' : ∀ x ∈ F, wr.heap.size <= x := hF; have K2 := hKn.out.below gB; have K2a := K2.below (Qaa (Below.refl _ _) (.cells #[.int .i64 0, .slice none 0 0, .slice none 0 0, .slice xa (newO (n : Int)).length xc] 75)); have gBa : Below wr.heap.size wr (w2.alloc (.cells #[.int .i64 0, .slice none 0 0, .slice none 0 0, .slice xa (newO (n : Int)).length xc] 75)) := Qaa gB _; have hxP := gp_new (c := xc) hGp; have hxPa := Qar _ (w2.alloc (.cells #[.int .i64 0, .slice none 0 0, .slice none 0 0, .slice xa (newO (n : Int)).length xc] 75)) (⟨0, none, 0, [], none, 0, [], xa, xc, newO (n : Int)⟩ : GC) _ (fun _ => False) hxP (Offp.of_below (Qaa (Below.refl _ _) _)) (fun _ _ e => e); have hAt : At (w2.alloc (.cells #[.int .i64 0, .slice none 0 0, .slice none 0 0, .slice xa (newO (n : Int)).length xc] 75)) (some ⟨w2.heap.size, 0, none⟩) [(⟨0, none, 0, [], none, 0, [], xa, xc, newO (n : Int)⟩ : GC)] := .inr ⟨w2.heap.size, 0, rfl, by simp, one_in w2 (⟨0, none, 0, [], none, 0, [], xa, xc, newO (n : Int)⟩ : GC) 75⟩; have hGa := hG.out.below gBa; have hll := hl.out; obtain ⟨v', w3, hr, hown, hgrow, hat⟩ := Qbm (P := Tryz.prog) Tryz.underlying29 infoGC rfl (by decide) (by decide) Q (.slice a j c) gs [(⟨0, none, 0, [], none, 0, [], xa, xc, newO (n : Int)⟩ : GC)] (some ⟨w2.heap.size, 0, none⟩) 1 (w2.alloc (.cells #[.int .i64 0, .slice none 0 0, .slice none 0 0, .slice xa (newO (n : Int)).length xc] 75)) hGa.q hGa.own hAt (by rw [hll]; simp; omega); simp only [List.length_cons, List.length_nil, Nat.zero_add] at hr hown; have G3 := hG.out.snoc gBa hxPa rfl (fun b hb => ⟨hF' b hb, by have := hGp.lt b hb; simp; omega⟩) hown hgrow hat; rw [hll] at hown; obtain ⟨a', c', rfl, _⟩ := Qa5 hown; have K3 := K2a.offp (Qcc hgrow) (fun x hx => (hGa.own.lt x hx).1); have hgQ := K3.g0; have HK4 := hidP (K3.set (.slice a' (j + 1) c')); have HG4 := hidP (G3.offp (Offp.of_only ((Only.refl g w3).set 2 (.slice a' (j + 1) c'))) (fun x hx e => by omega)); have hS5 : (fun (w' : World) => w'.cell? ⟨g, 2, none⟩ = some (.slice a j c) /\ w'.cell? ⟨w.heap.size, 0, none⟩ = some (.int .i64 (n : Int))) w2 := ⟨K2.bg.row6.2.2.1, K2.b1.row4.1⟩; have hS6 : (fun (w' : World) => w'.cell? ⟨g, 2, none⟩ = some (.slice a j c) /\ w'.cell? ⟨w.heap.size, 0, none⟩ = some (.int .i64 (n : Int))) (w2.alloc (.cells #[.int .i64 0, .slice none 0 0, .slice none 0 0, .slice xa (newO (n : Int)).length xc] 75)) := ⟨K2a.bg.row6.2.2.1, K2a.b1.row4.1⟩; have hS7 : (fun (w' : World) => w'.cell? ⟨g, 2, none⟩ = some (.slice a j c) /\ w'.cell? ⟨w.heap.size, 0, none⟩ = some (.int .i64 (n : Int))) w3 := ⟨K3.bg.row6.2.2.1, K3.b1.row4.1⟩; have z2 := K3.bg.row6.2.2.1; have y2 := K3.bg.thaw 2; have HL4 : Hid ((gs ++ [(⟨0, none, 0, [], none, 0, [], xa, xc, newO (n : Int)⟩ : GC)]).length = j + 1) := (by show _ = _; rw [List.length_append, hll]; first | rfl | done); clear K2 K2a K3 G3 hGa hown hgrow hat hAt hxP hxPa gB gBa hF hF' hGp g2 hll hgQ
       refine hK.out _ _ (.inr hS5) ?_
       clear hK K
       try simp only [zX,zY]
       refine Qb5 (i := 5) (by kernel_rfl) rfl (fun K hK => ?_)
       simp only [zG]
       go_simp
       refine hK.out _ _ (.inr hS6) ?_
       clear hK K
       try simp only [zX,zY]
       refine Qb5 (i := 6) (by kernel_rfl) rfl (fun K hK => ?_)
       simp only [zG]
       rw [if_pos (by rfl)]; refine Qav _ _ _ (by rfl) _ _ _ (by rfl) (by rfl) hr ?_
       refine hK.out _ _ (.inr hS7) ?_
       clear hK K
       try simp only [zX,zY]
       refine' Qgl (i := 7) (v := _) rfl (by kernel_rfl) (by decide) (by kernel_rfl) (by kernel_rfl) (fun _ _ _ h => h) (Or.inl ⟨by rfl, ?hy31⟩) (by assumption) ?rest31
       case hy31 => (intro w hSw; (try dsimp only at hSw); go_simp<;>with_reducible rfl)
       try simp only [zX,zY]
       refine Qb5 (i := 8) (by kernel_rfl) rfl (fun K hK => ?_)
       simp only [zG]
       go_simp
       refine hK.out _ _ (.inl rfl) ?_
       clear hK K
       try simp only [zX,zY]
       refine Qhx (by kernel_rfl) ?_ _
       refine NoPanic.normal ?_
       go_wp2
       exact ⟨⟨j + 1, a', c', _, _, by go_num, by omega, HK4, HG4, HL4⟩, by simp [intOf]; omega⟩
     . obtain rfl : j = 2 := by omega
       obtain ⟨u0, u1, u2, u3, u4, u5⟩ := hKn.out.bg.row6
       have b2 := hKn.out.b2
       obtain ⟨r0, r1, r2, r3, r4, r5⟩ := b2.row6
       have f0 := b2.thaw 0
       have f1 := b2.thaw 1
       have f2 := b2.thaw 2
       have f3 := b2.thaw 3
       have f4 := b2.thaw 4
       have f5 := b2.thaw 5
       have hne : g ≠ w.heap.size + 1 := by have := hKn.out.g0; omega
       go_wp2
       have e6 := (((((b2.setAt 0 (.slice (some ⟨bR, 0, none⟩) n n)).setAt 1 (.slice none 0 0)).setAt 2 (.slice a 2 c)).setAt 3 (.int .i64 0)).setAt 4 (.slice (some ⟨bD, 0, none⟩) 4 4)).setAt 5 (.slice (some ⟨bL, 0, none⟩) 4 4)
       have e6' : Blk _ (w.heap.size + 1) 33 #[.slice (some ⟨bR, 0, none⟩) n n, .slice none 0 0, .slice a 2 c, .int .i64 0, .slice (some ⟨bD, 0, none⟩) 4 4, .slice (some ⟨bL, 0, none⟩) 4 4] := e6
       obtain ⟨x0, x1, x2, x3, x4, x5⟩ := e6'.row6
       refine bodyPost_ret (v := .agg #[.slice (some ⟨bR, 0, none⟩) n n, .slice none 0 0, .slice a 2 c, .int .i64 0, .slice (some ⟨bD, 0, none⟩) 4 4, .slice (some ⟨bL, 0, none⟩) 4 4]) (by simp [results, Tryz.results14, go_sem, x0, x1, x2, x3, x4, x5]) rfl ?_
       exact Qhv rfl hKn.out hG.out hl.out (((((((Offp.refl (fun x => x = w.heap.size + 1) _).set (b := w.heap.size + 1) rfl _ _).set (b := w.heap.size + 1) rfl _ _).set (b := w.heap.size + 1) rfl _ _).set (b := w.heap.size + 1) rfl _ _).set (b := w.heap.size + 1) rfl _ _).set (b := w.heap.size + 1) rfl _ _)
end Go.Proofs.YtlcjaabnfdnfmaaGreatDoor.Gen
