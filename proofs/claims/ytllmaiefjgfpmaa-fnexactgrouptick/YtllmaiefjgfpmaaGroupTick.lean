/-
  FnExactGroupTick: at every input the program's answer is the specification's, field by field; what it was handed stays as it was; its answer owns its memory. No condition.
-/
import Derived.Test.YtllmaiefjgfpmaaGrpSt
import Derived.ChangeMaps5
namespace Go.Proofs.Ytllmaiefjgfpmaa.GroupTick
open Go.ChangeShapes Go.WideShapes Go.ChangeAt Go.RowKit Go.Joins Go.Deep Base Gen
set_option linter.unusedVariables false

theorem own : ownKnob Try.prog.godebug = none := by kernel_rfl
theorem laidOut : laidOutB Try.prog = true := by kernel_rfl

set_option linter.unusedSimpArgs false
/-- What the law has laid: its argument, the two answers, what it handed over. -/
structure Lw (w W : World) (i j k : Nat) (va vs vx vi : Array Value) : Prop where
  bl : Below w.heap.size w W
  pa : Blk W w.heap.size 24 va
  pw : Blk W i 26 vs
  px : Blk W j 26 vx
  pg : Blk W k 26 vi
section
variable {w W W' : World} {i j k : Nat} {va vs vx vi : Array Value}
theorem Lw.below (h : Lw w W i j k va vs vx vi) (g : Below W.heap.size W W') : Lw w W' i j k va vs vx vi := ⟨via0 g h.bl, h.pa.below g h.pa.lt, h.pw.below g h.pw.lt, h.px.below g h.px.lt, h.pg.below g h.pg.lt⟩
theorem Lw.alloc (h : Lw w W i j k va vs vx vi) (ob : Obj) : Lw w (W.alloc ob) i j k va vs vx vi := h.below (alloc0 (Below.refl _ _) _)
theorem Lw.off {F : List Nat} (h : Lw w W i j k va vs vx vi) (f : Off F W W') (hF : ∀ x ∈ F, w.heap.size < x ∧ x ≠ i ∧ x ≠ j ∧ x ≠ k) : Lw w W' i j k va vs vx vi :=
  ⟨h.bl.trans (f.toBelow (fun x hx => Nat.le_of_lt (hF x hx).1) h.bl.size), h.pa.off f (fun hx => Nat.lt_irrefl _ (hF _ hx).1), h.pw.off f (fun hx => (hF _ hx).2.1 rfl), h.px.off f (fun hx => (hF _ hx).2.2.1 rfl), h.pg.off f (fun hx => (hF _ hx).2.2.2 rfl)⟩
end
set_option maxRecDepth 100000 in
set_option maxHeartbeats 8000000 in
theorem law_any (gen time : Int) (A B C : Option Addr) (ca cb cc : Nat) (m b o : List Int) (hl : m.length ≤ 9223372036854775807 ∧ b.length ≤ 9223372036854775807 ∧ o.length ≤ 9223372036854775807) (hr : (∀ x ∈ m, I64 x) ∧ (∀ x ∈ b, I64 x) ∧ ∀ x ∈ o, I64 x) (hfs : I64 gen ∧ I64 time) (w : World) (hA : At w A m ∧ At w B b ∧ At w C o) :
    Calls Try.prog 3 #[.agg #[.int .i64 gen, .slice A m.length ca, .slice B b.length cb, .slice C o.length cc], .int .i64 time] w fun e w' => e = .returned (.bool true) ∧ Below w.heap.size w w' := by
  have HA := hidP hA
  have Hr := hidP hr
  have Hf := hidP hfs
  have Hl := hidP hl
  clear hA hr hfs hl
  go_enter Try.func3, Try.ntmps3
  go_wp2_with fail
  refine (szGroup_any gen A B C m.length b.length o.length ca cb cc Hl.out.1 Hl.out.2.1 Hl.out.2.2 1048576 (by omega) (by omega) _).mono ?_
  rintro e w1 ⟨rfl, g1⟩
  have B1 : Below w.heap.size w w1 := by repeat (first | exact Below.refl _ _ | assumption | refine via0 (by assumption) ?_ | refine Below.drew ?_ | refine alloc0 ?_ _)
  have p1 := (Blk.new w 24 #[.int .i64 gen, .slice A m.length ca, .slice B b.length cb, .slice C o.length cc]).below g1 (by simp)
  obtain ⟨u0, u1, u2, u3⟩ := p1.row4
  by_cases hsz : (1048576 : Int) < ((m.length + b.length + o.length : Nat) : Int)
  · rw [if_pos hsz]
    go_wp2
    go_ret
    exact ⟨rfl, B1⟩
  rw [if_neg hsz]
  have HL : Hid (m.length ≤ 1048576 ∧ b.length ≤ 1048576 ∧ o.length ≤ 1048576) := by refine ⟨?_, ?_, ?_⟩ <;> omega
  have hpos : ¬ (1048576 : Int) - ((m.length + b.length + o.length : Nat) : Int) < 0 := by omega
  generalize hq : (1048576 : Int) - ((m.length + b.length + o.length : Nat) : Int) = qq at hpos ⊢
  clear hq hsz
  have HImp : Hid (∀ (x y z : Nat) (W : World), At W (some ⟨x, 0, none⟩) m → At W (some ⟨y, 0, none⟩) b → At W (some ⟨z, 0, none⟩) o → Calls Try.prog 9 #[.agg #[.int .i64 gen, .slice (some ⟨x, 0, none⟩) m.length m.length, .slice (some ⟨y, 0, none⟩) b.length b.length, .slice (some ⟨z, 0, none⟩) o.length o.length], .int .i64 time] W fun e w' => ToldG W w' e (tickG gen time m b) (tickM time m b) (tickB time m b) o) :=
    fun x y z W h1 h2 h3 => tick_any gen time Hf.out.1 Hf.out.2 _ _ _ _ _ _ m b o HL.out.1 HL.out.2.1 HL.out.2.2 Hr.out.2.1 W h1 h2 h3 (Nat.le_refl _) (by have := HL.out.2.1; omega)
  have HT : Hid ((tickM time m b).length ≤ 1048576 ∧ (tickB time m b).length ≤ 1048576 ∧ o.length ≤ 1048576) := by
    refine ⟨?_, ?_, HL.out.2.2⟩
    · have h1 := keepF_le time (mbs m b); rw [mbs_length] at h1; have := HL.out.1; simp [tickM]; omega
    · have h1 := kB_le' time m b 0; rw [kF_zero] at h1; have := HL.out.2.1; show (beatsF (keepF time (mbs m b)) ++ extraF m b).length ≤ _; omega
  go_wp2_with fail
  refine (toGroup_any gen A B C ca cb cc m b o HL.out.1 HL.out.2.1 HL.out.2.2 _ (HA.out.1.below B1) (HA.out.2.1.below B1) (HA.out.2.2.below B1)).mono ?_
  rintro e w2 ⟨x2, y2, z2, rfl, g2, T2⟩
  have B2 : Below w.heap.size w w2 := via0 g2 B1
  have p2 := p1.below g2 p1.lt
  clear u0 u1 u2 u3
  obtain ⟨u0, u1, u2, u3⟩ := p2.row4
  go_wp2_with fail
  refine (spTick_any gen time Hf.out.1 Hf.out.2 _ _ _ _ _ _ m b o HL.out.1 HL.out.2.1 HL.out.2.2 Hr.out.2.1 _ T2.am T2.ab T2.ao).mono ?_
  generalize tickG gen time m b = gn at *
  generalize tickM time m b = M at *
  generalize tickB time m b = Bt at *
  rintro e w3 ⟨aS1, aS2, aS3, cS1, cS2, cS3, FS, rfl, g3, GS, lS⟩
  have p3 := (p2.below g3 p2.lt).alloc (.cells #[.int .i64 gn, .slice aS1 M.length cS1, .slice aS2 Bt.length cS2, .slice aS3 o.length cS3] 26)
  have q3 := Blk.new w3 26 #[.int .i64 gn, .slice aS1 M.length cS1, .slice aS2 Bt.length cS2, .slice aS3 o.length cS3]
  have B3 : Below w.heap.size w (w3.alloc (.cells #[.int .i64 gn, .slice aS1 M.length cS1, .slice aS2 Bt.length cS2, .slice aS3 o.length cS3] 26)) := alloc0 (via0 g3 B2) _
  have ltS := hidP GS.lt
  have HS := hidP (GS.alloc (.cells #[.int .i64 gn, .slice aS1 M.length cS1, .slice aS2 Bt.length cS2, .slice aS3 o.length cS3] 26))
  have sz3 : w.heap.size < w3.heap.size := Nat.lt_of_lt_of_le p2.lt g3.size
  clear u0 u1 u2 u3 GS lS g3 g2 g1 T2 p1 p2
  obtain ⟨u0, u1, u2, u3⟩ := p3.row4
  go_wp2_with fail
  refine (toGroup_any gen A B C ca cb cc m b o HL.out.1 HL.out.2.1 HL.out.2.2 _ (HA.out.1.below B3) (HA.out.2.1.below B3) (HA.out.2.2.below B3)).mono ?_
  rintro e w4 ⟨x4, y4, z4, rfl, g4, T4⟩
  obtain ⟨FX, GX, lX⟩ := T4.gp
  have B4 : Below w.heap.size w (w4.alloc (.cells #[.int .i64 gen, .slice (some ⟨x4, 0, none⟩) m.length m.length, .slice (some ⟨y4, 0, none⟩) b.length b.length, .slice (some ⟨z4, 0, none⟩) o.length o.length] 26)) := alloc0 (via0 g4 B3) _
  have p4 := (p3.below g4 p3.lt).alloc (.cells #[.int .i64 gen, .slice (some ⟨x4, 0, none⟩) m.length m.length, .slice (some ⟨y4, 0, none⟩) b.length b.length, .slice (some ⟨z4, 0, none⟩) o.length o.length] 26)
  have q4 := (q3.below g4 q3.lt).alloc (.cells #[.int .i64 gen, .slice (some ⟨x4, 0, none⟩) m.length m.length, .slice (some ⟨y4, 0, none⟩) b.length b.length, .slice (some ⟨z4, 0, none⟩) o.length o.length] 26)
  have r4 := Blk.new w4 26 #[.int .i64 gen, .slice (some ⟨x4, 0, none⟩) m.length m.length, .slice (some ⟨y4, 0, none⟩) b.length b.length, .slice (some ⟨z4, 0, none⟩) o.length o.length]
  have HS := hidP ((HS.out.below g4).alloc (.cells #[.int .i64 gen, .slice (some ⟨x4, 0, none⟩) m.length m.length, .slice (some ⟨y4, 0, none⟩) b.length b.length, .slice (some ⟨z4, 0, none⟩) o.length o.length] 26))
  have ltX : Hid (∀ x ∈ FX, w3.heap.size < x ∧ x < w4.heap.size) := fun x hx => ⟨by have := lX x hx; simp only [World.size_alloc] at this; omega, GX.lt x hx⟩
  have HX := hidP (GX.alloc (.cells #[.int .i64 gen, .slice (some ⟨x4, 0, none⟩) m.length m.length, .slice (some ⟨y4, 0, none⟩) b.length b.length, .slice (some ⟨z4, 0, none⟩) o.length o.length] 26))
  have sz4 : w3.heap.size < w4.heap.size := by have := g4.size; simp only [World.size_alloc] at this; omega
  have HT4 := hidP (T4.below (alloc0 (Below.refl _ w4) (.cells #[.int .i64 gen, .slice (some ⟨x4, 0, none⟩) m.length m.length, .slice (some ⟨y4, 0, none⟩) b.length b.length, .slice (some ⟨z4, 0, none⟩) o.length o.length] 26)))
  clear u0 u1 u2 u3 GX lX g4 T4 p3 q3
  obtain ⟨u0, u1, u2, u3⟩ := r4.row4
  go_wp2_with fail
  refine (HImp.out x4 y4 z4 _ HT4.out.am HT4.out.ab HT4.out.ao).mono ?_
  rintro e w5 ⟨aI1, aI2, aI3, cI1, cI2, cI3, FI, rfl, g5, GI, lI⟩
  have L : Lw w (w5.alloc (.cells #[.int .i64 gn, .slice aI1 M.length cI1, .slice aI2 Bt.length cI2, .slice aI3 o.length cI3] 26)) w3.heap.size w4.heap.size w5.heap.size #[.int .i64 gen, .slice A m.length ca, .slice B b.length cb, .slice C o.length cc] #[.int .i64 gn, .slice aS1 M.length cS1, .slice aS2 Bt.length cS2, .slice aS3 o.length cS3] #[.int .i64 gen, .slice (some ⟨x4, 0, none⟩) m.length m.length, .slice (some ⟨y4, 0, none⟩) b.length b.length, .slice (some ⟨z4, 0, none⟩) o.length o.length] #[.int .i64 gn, .slice aI1 M.length cI1, .slice aI2 Bt.length cI2, .slice aI3 o.length cI3] :=
    ⟨alloc0 (via0 g5 B4) _, (p4.below g5 p4.lt).alloc _, (q4.below g5 q4.lt).alloc _, (r4.below g5 r4.lt).alloc _, Blk.new w5 26 _⟩
  have ltI : Hid (∀ x ∈ FI, w4.heap.size < x ∧ x < w5.heap.size) := fun x hx => ⟨by have := lI x hx; simp only [World.size_alloc] at this; omega, GI.lt x hx⟩
  have HI' := hidP (GI.alloc (.cells #[.int .i64 gn, .slice aI1 M.length cI1, .slice aI2 Bt.length cI2, .slice aI3 o.length cI3] 26))
  have HS := hidP ((HS.out.below g5).alloc (.cells #[.int .i64 gn, .slice aI1 M.length cI1, .slice aI2 Bt.length cI2, .slice aI3 o.length cI3] 26))
  have HX := hidP ((HX.out.below g5).alloc (.cells #[.int .i64 gn, .slice aI1 M.length cI1, .slice aI2 Bt.length cI2, .slice aI3 o.length cI3] 26))
  have sz5 : w4.heap.size < w5.heap.size := by have := g5.size; simp only [World.size_alloc] at this; omega
  clear u0 u1 u2 u3 GI lI g5 HT4 p4 q4 r4 B1 B2 B3 B4
  obtain ⟨u0, u1, u2, u3⟩ := L.pw.row4
  obtain ⟨t0, t1, t2, t3⟩ := L.pg.row4
  go_wp2_with fail
  refine (eqGroup_same gn _ _ _ _ _ _ _ _ _ _ _ _ M Bt o (by have := HT.out.1; omega) (by have := HT.out.2.1; omega) (by have := HT.out.2.2; omega) _ HI'.out.at1 HI'.out.at2 HI'.out.at3 HS.out.at1 HS.out.at2 HS.out.at3).mono ?_
  rintro e w6 ⟨rfl, g6⟩
  have L := L.below g6
  have HX := hidP (HX.out.below g6)
  have HS := hidP (HS.out.below g6)
  have HI' := hidP (HI'.out.below g6)
  clear u0 u1 u2 u3 t0 t1 t2 t3 g6
  have L := L.below (Below.drew (Below.refl _ w6))
  have HX := hidP (HX.out.below (Below.drew (Below.refl _ w6)))
  have HS := hidP (HS.out.below (Below.drew (Below.refl _ w6)))
  have HI' := hidP (HI'.out.below (Below.drew (Below.refl _ w6)))
  go_wp2_with fail
  refine wp_region_noPanic ?_
  refine wp_region_held_drew (S := fun (w' : World) => (w'.cell? ⟨w4.heap.size, 0, none⟩ = some (.int .i64 gen) ∧ w'.cell? ⟨w4.heap.size, 1, none⟩ = some (.slice (some ⟨x4, 0, none⟩) m.length m.length) ∧ w'.cell? ⟨w4.heap.size, 2, none⟩ = some (.slice (some ⟨y4, 0, none⟩) b.length b.length) ∧ w'.cell? ⟨w4.heap.size, 3, none⟩ = some (.slice (some ⟨z4, 0, none⟩) o.length o.length)) ∧ (w'.cell? ⟨w.heap.size, 0, none⟩ = some (.int .i64 gen) ∧ w'.cell? ⟨w.heap.size, 1, none⟩ = some (.slice A m.length ca) ∧ w'.cell? ⟨w.heap.size, 2, none⟩ = some (.slice B b.length cb) ∧ w'.cell? ⟨w.heap.size, 3, none⟩ = some (.slice C o.length cc))) (by kernel_rfl) ?_ (fun hH => ?_)
  · exact ⟨L.px.row4, L.pa.row4⟩
  refine' wpAnyH_take (i := 0) (v := _) rfl (by kernel_rfl) (by kernel_rfl) (by kernel_rfl) (fun _ _ _ h => h) (Or.inl ⟨by rfl, ?hy1⟩) (by assumption) ?rest1
  case hy1 => (intro w hSw; (try dsimp only at hSw); go_simp <;> with_reducible rfl)
  try simp only [Act.put, List.setIfInBounds_toArray, List.set_cons_zero, List.set_cons_succ, List.getElem_toArray, List.getElem_cons_succ, List.getElem_cons_zero]
  refine' wpAnyH_take (i := 1) (v := _) rfl (by kernel_rfl) (by kernel_rfl) (by kernel_rfl) (fun _ _ _ h => h) (Or.inl ⟨by rfl, ?hy2⟩) (by assumption) ?rest2
  case hy2 => (intro w hSw; (try dsimp only at hSw); go_simp <;> with_reducible rfl)
  try simp only [Act.put, List.setIfInBounds_toArray, List.set_cons_zero, List.set_cons_succ, List.getElem_toArray, List.getElem_cons_succ, List.getElem_cons_zero]
  refine wpAnyH_ready (rs := [2]) (by kernel_rfl) (by simp) (AllReadyH.cons rfl (fun K hK => ?_) AllReadyH.nil)
  simp only [List.getElem_toArray, List.getElem_cons_succ, List.getElem_cons_zero]
  go_simp
  go_at_call 8; refine (toGroup_any gen A B C ca cb cc m b o HL.out.1 HL.out.2.1 HL.out.2.2 _ (HA.out.1.below L.bl) (HA.out.2.1.below L.bl) (HA.out.2.2.below L.bl)).mono ?_; rintro e w7 ⟨x7, y7, z7, rfl, g7, T7⟩; have L := L.below g7; have HX := hidP (HX.out.below g7); have HS := hidP (HS.out.below g7); have HI' := hidP (HI'.out.below g7)
  refine hK.out _ _ ?_ (fun hH => ?_)
  · exact ⟨L.px.row4, L.pa.row4⟩
  clear hK K
  try simp only [Act.put, List.setIfInBounds_toArray, List.set_cons_zero, List.set_cons_succ, List.getElem_toArray, List.getElem_cons_succ, List.getElem_cons_zero]
  refine wpAnyH_ready (rs := [3]) (by kernel_rfl) (by simp) (AllReadyH.cons rfl (fun K hK => ?_) AllReadyH.nil)
  simp only [List.getElem_toArray, List.getElem_cons_succ, List.getElem_cons_zero]
  go_simp
  go_at_call 10; refine (eqGroup_same gen _ _ _ _ _ _ _ _ _ _ _ _ m b o Hl.out.1 Hl.out.2.1 Hl.out.2.2 _ HX.out.at1 HX.out.at2 HX.out.at3 T7.am T7.ab T7.ao).mono ?_; rintro e w8 ⟨rfl, g8⟩; have L := L.below g8; have HX := hidP (HX.out.below g8); have HS := hidP (HS.out.below g8); have HI' := hidP (HI'.out.below g8); clear g7 g8 T7
  refine hK.out _ _ ?_ (fun hH => ?_)
  · exact ⟨L.px.row4, L.pa.row4⟩
  clear hK K
  try simp only [Act.put, List.setIfInBounds_toArray, List.set_cons_zero, List.set_cons_succ, List.getElem_toArray, List.getElem_cons_succ, List.getElem_cons_zero]
  refine' wpAnyH_take (i := 4) (v := _) rfl (by kernel_rfl) (by kernel_rfl) (by kernel_rfl) (fun _ _ _ h => h) (Or.inl ⟨by rfl, ?hy3⟩) (by assumption) ?rest3
  case hy3 => (intro w hSw; (try dsimp only at hSw); go_simp <;> with_reducible rfl)
  try simp only [Act.put, List.setIfInBounds_toArray, List.set_cons_zero, List.set_cons_succ, List.getElem_toArray, List.getElem_cons_succ, List.getElem_cons_zero]
  refine wpAnyH_done (by kernel_rfl) ?_ _
  refine NoPanic.normal ?_
  obtain ⟨u0, u1, u2, u3⟩ := L.px.row4
  go_wp2_with fail
  refine (markGroup_any gen _ _ _ _ _ _ m b o FX (by have := HL.out.1; omega) (by have := HL.out.2.1; omega) (by have := HL.out.2.2; omega) _ HX.out).mono ?_
  rintro e w9 ⟨rfl, f9, _⟩
  have L := L.off f9 (fun x hx => by have := ltX.out x hx; exact ⟨by omega, by omega, by omega, by omega⟩)
  have HS := hidP (HS.out.off f9 (fun x hx hy => by have := ltX.out x hy; have := ltS.out x hx; omega))
  have HI' := hidP (HI'.out.off f9 (fun x hx hy => by have := ltX.out x hy; have := ltI.out x hx; omega))
  clear u0 u1 u2 u3 f9
  obtain ⟨u0, u1, u2, u3⟩ := L.pw.row4
  obtain ⟨t0, t1, t2, t3⟩ := L.pg.row4
  have n9 : ¬ (1 + (m.length : Int) + (b.length : Int) + (o.length : Int) < 0) := by omega
  go_wp2_with fail
  refine (eqGroup_same gn _ _ _ _ _ _ _ _ _ _ _ _ M Bt o (by have := HT.out.1; omega) (by have := HT.out.2.1; omega) (by have := HT.out.2.2; omega) _ HI'.out.at1 HI'.out.at2 HI'.out.at3 HS.out.at1 HS.out.at2 HS.out.at3).mono ?_
  rintro e w10 ⟨rfl, g10⟩
  have L := L.below g10
  have HS := hidP (HS.out.below g10)
  have HI' := hidP (HI'.out.below g10)
  clear u0 u1 u2 u3 t0 t1 t2 t3 g10
  obtain ⟨t0, t1, t2, t3⟩ := L.pg.row4
  go_wp2_with fail
  refine (markGroup_any gn _ _ _ _ _ _ M Bt o FI (by have := HT.out.1; omega) (by have := HT.out.2.1; omega) (by have := HT.out.2.2; omega) _ HI'.out).mono ?_
  rintro e w11 ⟨rfl, f11, G11⟩
  have L := L.off f11 (fun x hx => by have := ltI.out x hx; exact ⟨by omega, by omega, by omega, by omega⟩)
  have HS := hidP (HS.out.off f11 (fun x hx hy => by have := ltI.out x hy; have := ltS.out x hx; omega))
  have HG := hidP G11
  clear t0 t1 t2 t3 f11 G11
  obtain ⟨t0, t1, t2, t3⟩ := L.pg.row4
  have n11 : ¬ (1 + (M.length : Int) + (Bt.length : Int) + (o.length : Int) < 0) := by omega
  go_wp2_with fail
  refine (heldGroup_any gn _ _ _ _ _ _ M.length Bt.length o.length FI (by have := HT.out.1; omega) (by have := HT.out.2.1; omega) (by have := HT.out.2.2; omega) _ HG.out).mono ?_
  rintro e w12 ⟨rfl, g12⟩
  have L := L.below g12
  have HS := hidP (HS.out.below g12)
  have HG := hidP (HG.out.below g12)
  clear t0 t1 t2 t3 g12
  obtain ⟨u0, u1, u2, u3⟩ := L.pa.row4
  go_wp2_with fail
  refine (toGroup_any gen A B C ca cb cc m b o HL.out.1 HL.out.2.1 HL.out.2.2 _ (HA.out.1.below L.bl) (HA.out.2.1.below L.bl) (HA.out.2.2.below L.bl)).mono ?_
  rintro e w13 ⟨x13, y13, z13, rfl, g13, T13⟩
  have L := L.below g13
  have HS := hidP (HS.out.below g13)
  have HG := hidP (HG.out.below g13)
  clear u0 u1 u2 u3 g13
  go_wp2_with fail
  refine (HImp.out x13 y13 z13 _ T13.am T13.ab T13.ao).mono ?_
  rintro e w14 ⟨aH1, aH2, aH3, cH1, cH2, cH3, FH, rfl, g14, GH, lH⟩
  have L := (L.below g14).alloc (.cells #[.int .i64 gn, .slice aH1 M.length cH1, .slice aH2 Bt.length cH2, .slice aH3 o.length cH3] 26)
  have HS := hidP ((HS.out.below g14).alloc (.cells #[.int .i64 gn, .slice aH1 M.length cH1, .slice aH2 Bt.length cH2, .slice aH3 o.length cH3] 26))
  have HG := hidP ((HG.out.below g14).alloc (.cells #[.int .i64 gn, .slice aH1 M.length cH1, .slice aH2 Bt.length cH2, .slice aH3 o.length cH3] 26))
  have HH := hidP (GH.alloc (.cells #[.int .i64 gn, .slice aH1 M.length cH1, .slice aH2 Bt.length cH2, .slice aH3 o.length cH3] 26))
  clear g14 GH lH T13
  obtain ⟨u0, u1, u2, u3⟩ := L.pw.row4
  go_wp2_with fail
  refine (eqGroup_same gn _ _ _ _ _ _ _ _ _ _ _ _ M Bt o (by have := HT.out.1; omega) (by have := HT.out.2.1; omega) (by have := HT.out.2.2; omega) _ HH.out.at1 HH.out.at2 HH.out.at3 HS.out.at1 HS.out.at2 HS.out.at3).mono ?_
  rintro e w15 ⟨rfl, g15⟩
  have L := L.below g15
  have HG := hidP (HG.out.below g15)
  clear u0 u1 u2 u3 g15
  obtain ⟨t0, t1, t2, t3⟩ := L.pg.row4
  go_wp2_with fail
  refine (heldGroup_any gn _ _ _ _ _ _ M.length Bt.length o.length FI (by have := HT.out.1; omega) (by have := HT.out.2.1; omega) (by have := HT.out.2.2; omega) _ HG.out).mono ?_
  rintro e w16 ⟨rfl, g16⟩
  go_wp2
  go_ret
  exact ⟨rfl, via0 g16 L.bl⟩

set_option maxRecDepth 100000 in
theorem contract (H : Type) (enc : TypeId × Value → H) (W : World) (base : Nat) (args : Array Value) (ds gs : List (DataW H)) (before : List MemPlace)
    (hval : ∀ (j : Nat) t v, Try.f3.params[j]? = some t → args[j]? = some v → Value.okWide Try.prog W .any base t v)
    (hW : DataW.Whole enc Try.prog Try.f3.params.toList Rows.fnExactGroupTickSpec.vars false W args.toList ds gs before) :
    Calls Try.prog 3 args W fun e W' => ∃ v, e = .returned v ∧ Rows.fnExactGroupTickSpec.post enc Try.prog Try.f3 false true false false W args v W' := by
  have hW' := hW
  obtain ⟨p, q, hA0, hV, rfl, hfz, hnd⟩ := hW
  have hA : DataW.TrodAll enc Try.prog W 0 (fun _ => true) true Try.f3.params.toList args.toList ds p := hA0
  rw [Try.params3] at hA hval
  obtain ⟨v0, vs0, d0, ds0, p0, q0, e0, rfl, rfl, h0, r0⟩ := trodAll_cons hA
  obtain ⟨v1, vs1, d1, ds1, p1, q1, rfl, rfl, rfl, h1, r1⟩ := trodAll_cons r0
  obtain ⟨rfl, rfl, rfl⟩ := trodAll_nil r1
  have e0' : args = #[v0, v1] := by cases args; simp_all
  subst e0'
  obtain ⟨rfl, rfl⟩ := trodVars_none hV
  obtain ⟨gen, A, B, C, ca, cb, cc, m, b, o, rfl, i0, hl, hr, a1, a2, a3⟩ := openGroup (hval 0 24 v0 rfl rfl) h0
  obtain ⟨time, rfl, _, _, j1⟩ := open_int Try.underlying3 (hval 1 3 v1 rfl rfl) h1
  refine (law_any gen time A B C ca cb cc m b o hl hr ⟨i0, i64_of j1⟩ W ⟨a1, a2, a3⟩).mono fun e W' ⟨he, hb⟩ => ?_
  subst he
  exact ⟨_, rfl, post_true laidOut (by kernel_rfl) (by kernel_rfl) Try.underlying4 rfl rfl hW' hb⟩

set_option maxRecDepth 100000 in
theorem lifted (os : Os) (started : os.Started) (H : Type) (enc : TypeId × Value → H) :
    ReturnsInHanded {} Try.checked os 3 .any (Rows.fnExactGroupTickSpec.pre6 enc Try.prog Try.f3 Rows.fnExactGroupTickRow.domain false) (Rows.fnExactGroupTickSpec.post enc Try.prog Try.f3 false true false false) := by
  refine returnsInHanded_of_change (C := Try.checked) own started (by kernel_rfl) Try.func3
    (ChangeSpec.witness6 (enc := enc) (C := Try.checked) false ⟨#[], #[.agg #[.int .i64 0, .slice none 0 0, .slice none 0 0, .slice none 0 0], .int .i64 0], []⟩ 8 (by kernel_rfl) (by kernel_rfl) (by kernel_rfl) (by kernel_rfl)) ?_
  intro W base args ds gs before hval0 hW _ _
  exact contract H enc W base args ds gs before hval0 hW

theorem proved : Rows.FnExactGroupTickSaid :=
  OpenClaim.holds_of_wide 3 Try.f3 rfl rfl rfl rfl rfl rfl rfl ⟨rfl, rfl, rfl, rfl, rfl⟩ rfl rfl rfl rfl rfl (by kernel_rfl) Try.func3 (by kernel_rfl)
    (of_decide_eq_true (by kernel_rfl)) (by unfold Func.isWrapper; first | (rw [if_pos (by decide +kernel)]; kernel_rfl) | (rw [if_neg (by decide +kernel)]; exact ⟨rfl, rfl⟩))
    (fun os started H enc _ => lifted os started H enc)
end Go.Proofs.Ytllmaiefjgfpmaa.GroupTick
namespace Go.Proofs.Ytllmaiefjgfpmaa
theorem groupTick_holds : Rows.FnExactGroupTickSaid := GroupTick.proved
end Go.Proofs.Ytllmaiefjgfpmaa
