/-
  MakerPut of the specification at this seat.
-/
import Derived.Test.YtpbbpjckkccjaaaPutPure
import Derived.Test.YtpbbpjckkccjaaaLastOp
namespace Go.Proofs.Ytpbbpjckkccjaaa.Gen
open Go.ChangeShapes Go.WideShapes Go.ChangeAt Go.RowKit Go.Joins Go.Deep Base
set_option linter.unusedVariables false
set_option linter.unusedSimpArgs false

set_option maxRecDepth 100000 in
set_option maxHeartbeats 4000000 in
theorem specPut_own (row who epoch last window ep seq off : Int) (hw : I64 window) (A : Option Addr) (cap : Nat) (l : List Mk) (hl : l.length ≤ 1048576) (w : World) (hA : At w A l) :
    Calls Try.prog 13 #[.agg #[.int .i64 row, .int .i64 who, .int .i64 epoch, .int .i64 last, .slice A l.length cap], .int .i64 window, .int .i64 ep, .int .i64 seq, .int .i64 off] w fun e w' => ∃ v, e = .returned (.agg #[.int .i64 row, .int .i64 who, .int .i64 (putE epoch last l ep seq), .int .i64 (putS epoch last l ep seq), v]) ∧ w'.ownsRow w.heap.size 61 2 v (putM window epoch last l ep seq off).length (flat (putM window epoch last l ep seq off)) ∧ Below w.heap.size w w' := by
  have HA : Hid (At w A l) := hA
  have Hw := hidP hw
  clear hA hw
  go_enter Try.func13, Try.ntmps13
  go_wp2_with fail
  refine (specCopied_any row who epoch last A cap l hl _ (HA.out.below (alloc0 (alloc0 (Below.refl _ w) _) _))).mono ?_
  rintro e w1 ⟨v, rfl, hown, g1⟩
  have B1 : Below w.heap.size w w1 := via0 g1 (alloc0 (alloc0 (Below.refl _ w) _) _)
  have p0 := ((Blk.new w 26 #[.int .i64 row, .int .i64 who, .int .i64 epoch, .int .i64 last, .slice A l.length cap]).alloc (.cells #[.int .i64 0, .int .i64 0, .int .i64 0, .int .i64 0, .slice none 0 0] 26)).below g1 (by simp; omega)
  have p1 := (Blk.new (w.alloc (.cells #[.int .i64 row, .int .i64 who, .int .i64 epoch, .int .i64 last, .slice A l.length cap] 26)) 26 #[.int .i64 0, .int .i64 0, .int .i64 0, .int .i64 0, .slice none 0 0]).below g1 (by simp)
  rw [World.size_alloc] at p1
  obtain ⟨a, c, rfl, hc⟩ := owns_form hown
  simp only [World.size_alloc] at hown
  have Hown := hidP hown
  clear hown hc
  obtain ⟨u0, u1, u2, u3, u4⟩ := p0.row5
  have q0 := p0.lt
  have q1 := p1.lt
  go_wp2_with fail
  refine (specAsk_any row who epoch last ep seq A cap l hl _ (HA.out.below (alloc0 B1 _))).mono ?_
  rintro e w2 ⟨rfl, g2⟩
  have B2 : Below w.heap.size w w2 := via0 g2 (alloc0 B1 _)
  have r0 := (p0.alloc (.cells #[.int .i64 row, .int .i64 who, .int .i64 epoch, .int .i64 last, .slice a l.length c] 26)).below g2 (p0.alloc _).lt
  have r1 := (p1.alloc (.cells #[.int .i64 row, .int .i64 who, .int .i64 epoch, .int .i64 last, .slice a l.length c] 26)).below g2 (p1.alloc _).lt
  have r2 := (Blk.new w1 26 #[.int .i64 row, .int .i64 who, .int .i64 epoch, .int .i64 last, .slice a l.length c]).below g2 (by simp)
  have far2 : some w1.heap.size ≠ (Value.slice a l.length c).ownBlock := fun h => by have := owns_lt Hown.out h.symm; omega
  have Hown2 := hidP (owns_below (owns_alloc Hown.out (.cells #[.int .i64 row, .int .i64 who, .int .i64 epoch, .int .i64 last, .slice a l.length c] 26)) g2)
  have far1 : some (w.heap.size + 1) ≠ (Value.slice a l.length c).ownBlock := owns_far Hown2.out (by omega)
  have HB2 := hidP B2
  clear u0 u1 u2 u3 u4 p0 p1 Hown g1 g2 B1 B2
  generalize hBB : w1.heap.size = B at *
  clear hBB
  have q2 := r2.lt
  have q3 := r0.lt
  have q4 := r1.lt
  obtain ⟨c0, c1, c2, c3, c4⟩ := r2.row5
  obtain ⟨u0, u1, u2, u3, u4⟩ := r0.row5
  obtain ⟨n0, n1, n2, n3, n4⟩ := r1.row5
  have k0 := r1.thaw 0
  have k1 := r1.thaw 1
  have k2 := r1.thaw 2
  have k3 := r1.thaw 3
  have k4 := r1.thaw 4
  have j2 := r2.thaw 2
  have j3 := r2.thaw 3
  have j4 := r2.thaw 4
  have hne : B ≠ w.heap.size + 1 := by omega
  have hne' : w.heap.size + 1 ≠ B := by omega
  by_cases hd : askC epoch last l ep seq = 0
  · have hep := askC_epoch hd
    have HE : Hid (putE epoch last l ep seq = ep) := by show _ = _; simp [putE, putD, hd]
    have HS : Hid (putS epoch last l ep seq = seq) := by show _ = _; simp [putS, putD, hd]
    have HM : Hid (putM window epoch last l ep seq off = lastN window (putB epoch l ep ++ [⟨seq, off⟩])) := by show _ = _; simp [putM, putD, hd]
    rw [hd]
    clear hd
    by_cases he : ep > epoch
    · have HB : Hid (putB epoch l ep = []) := by show _ = _; simp [putB, he]
      have hx : ¬ ep = epoch := by omega
      clear hep
      have hX : At ((((w2.setCell ⟨B, 4, none⟩ (.slice none 0 0)).setCell ⟨B, 2, none⟩ (.int .i64 ep)).setCell ⟨B, 3, none⟩ (.int .i64 seq)).alloc (.cells #[.int .i64 seq, .int .i64 off] 61)) (some ⟨w2.heap.size, 0, none⟩) ([⟨seq, off⟩] : List Mk) := by
        have bx := Blk.new (((w2.setCell ⟨B, 4, none⟩ (.slice none 0 0)).setCell ⟨B, 2, none⟩ (.int .i64 ep)).setCell ⟨B, 3, none⟩ (.int .i64 seq)) 61 #[.int .i64 seq, .int .i64 off]
        have e : (((w2.setCell ⟨B, 4, none⟩ (.slice none 0 0)).setCell ⟨B, 2, none⟩ (.int .i64 ep)).setCell ⟨B, 3, none⟩ (.int .i64 seq)).heap.size = w2.heap.size := by simp
        rw [e] at bx
        exact .inr ⟨w2.heap.size, 0, rfl, by simp, fun j u hu => bx.cell (i := 0 + j) (by simpa [flat, Cel.cs] using hu)⟩
      have hWB : Below w.heap.size w ((((w2.setCell ⟨B, 4, none⟩ (.slice none 0 0)).setCell ⟨B, 2, none⟩ (.int .i64 ep)).setCell ⟨B, 3, none⟩ (.int .i64 seq)).alloc (.cells #[.int .i64 seq, .int .i64 off] 61)) := alloc0 (bl_set (bl_set (bl_set HB2.out (by omega) _) (by omega) _) (by omega) _) _
      obtain ⟨v', w3, hr, hown3, hgrow, hat⟩ := app_mk (w.heap.size + 1 + 1) (.slice none 0 0) [] [⟨seq, off⟩] (some ⟨w2.heap.size, 0, none⟩) 1 ((((w2.setCell ⟨B, 4, none⟩ (.slice none 0 0)).setCell ⟨B, 2, none⟩ (.int .i64 ep)).setCell ⟨B, 3, none⟩ (.int .i64 seq)).alloc (.cells #[.int .i64 seq, .int .i64 off] 61)) (by simp; omega) (World.ownsRow_nil _ _ _ _) hX (by first | (simp; done) | (simp; omega))
      simp only [List.length_cons, List.length_nil, Nat.zero_add] at hown3 hr
      have far3 : some B ≠ (Value.slice none 0 0).ownBlock := by simp [Value.ownBlock]
      have Y1 := ((((r1.other (B' := B) (by omega) 4 (.slice none 0 0)).other (B' := B) (by omega) 2 (.int .i64 ep)).other (B' := B) (by omega) 3 (.int .i64 seq)).alloc (.cells #[.int .i64 seq, .int .i64 off] 61)).kept hgrow (by simp [Value.ownBlock])
      have Y2 := ((((r2.setAt 4 (.slice none 0 0)).setAt 2 (.int .i64 ep)).setAt 3 (.int .i64 seq)).alloc (.cells #[.int .i64 seq, .int .i64 off] 61)).kept hgrow far3
      have hsz : ((((w2.setCell ⟨B, 4, none⟩ (.slice none 0 0)).setCell ⟨B, 2, none⟩ (.int .i64 ep)).setCell ⟨B, 3, none⟩ (.int .i64 seq)).alloc (.cells #[.int .i64 seq, .int .i64 off] 61)).heap.size = w2.heap.size + 1 := by simp
      have B3 := hidP (hWB.grown hgrow hWB.size (fun k e => by cases e))
      obtain ⟨g, c', hgB, hg3, hnc, hmc, rfl⟩ : ∃ g c', w.heap.size + 1 + 1 ≤ g ∧ g < w3.heap.size ∧ 1 ≤ c' ∧ c' ≤ maxLen ∧ v' = .slice (some ⟨g, 0, none⟩) (1) c' := by
        rcases hown3.2 with ⟨_, h⟩ | ⟨g, c1, cur, e1, hB, hb, h1, h2, _⟩
        · omega
        · exact ⟨g, c1, hB, Blk.lt (show Blk w3 g _ cur from hb), h1, h2, e1⟩
      have hgB' : g ≠ B := fun h => by
        rcases hat with e | e
        · exact far3 (by rw [← e, ← h]; rfl)
        · rw [hsz] at e; have : g = w2.heap.size + 1 := Option.some.inj e; omega
      have hw3 : w2.heap.size ≤ w3.heap.size := by have := hgrow.size; rw [hsz] at this; omega
      unfold maxLen at hmc
      have eL : lastN window (putB epoch l ep ++ [⟨seq, off⟩]) = ([] ++ [⟨seq, off⟩] : List Mk).drop ((1) - window.toNat) := by rw [HB.out]; simp [lastN]
      have EL := hidP eL
      have Z2 : Blk _ B 26 #[.int .i64 row, .int .i64 who, .int .i64 ep, .int .i64 seq, .slice (some ⟨g, 0, none⟩) (1) c'] := (Y2.setAt 4 (.slice (some ⟨g, 0, none⟩) (1) c')).drew
      have Z1 := (Y1.other (B' := B) (by omega) 4 (.slice (some ⟨g, 0, none⟩) (1) c')).drew
      have ownB : some B ≠ (Value.slice (some ⟨g, 0, none⟩) (1) c').ownBlock := fun h => hgB' (by have : B = g := Option.some.inj h; exact this.symm)
      have Z0 : Hid ((w3.setCell ⟨B, 4, none⟩ (.slice (some ⟨g, 0, none⟩) (1) c')).drew.ownsRow (w.heap.size + 1 + 1) 61 2 (.slice (some ⟨g, 0, none⟩) (1) c') (1) (flat ([] ++ [(⟨seq, off⟩ : Mk)]))) := owns_set hown3 ownB
      have B4 : Hid (Below w.heap.size w (w3.setCell ⟨B, 4, none⟩ (.slice (some ⟨g, 0, none⟩) (1) c')).drew) := (bl_set B3.out (by omega) _).drew
      have SD := hidP Z2.row5.2.2.2.2
      obtain ⟨i0, i1, i2, i3, i4⟩ := Y2.row5
      have x4 := Y2.thaw 4
      have hm0 : 0 ≤ mx window 0 := by unfold mx; split <;> omega
      have hm1 : mx window 0 ≤ 9223372036854775807 := by have := Hw.out.2; unfold mx; split <;> omega
      have hmax : ∀ W, Calls Try.prog 43 #[.int .i64 window, .int .i64 0] W fun e w' => e = .returned (.int .i64 (mx window 0)) ∧ w' = W := fun W => max_any window 0 W
      have Hmax := hidP hmax
      have hMt : window.toNat = (mx window 0).toNat := by unfold mx; split <;> omega
      generalize hM : mx window 0 = M at *
      clear hX hWB hown3 hgrow hat hsz eL hmax hM
      by_cases hlt : M < 1
      · obtain ⟨J, hJ⟩ : ∃ J : Int, IntKind.i64.wrap (1 - M) = J := ⟨_, rfl⟩
        have hJ1 : J = 1 - M := by rw [← hJ, IntKind.wrap_i64]; omega
        have hJ0 : 0 ≤ J := by omega
        have hJn : J ≤ 1 := by omega
        have HJ2 : Hid ((1) - window.toNat = J.toNat) := by show _ = _; rw [hJ1]; omega
        have HJ3 := hidP hJ
        clear hJ1 hJ hMt
        go_wp2_with (at_builtin; refine wpList_append_is rfl _ _ _ rfl _ _ _ rfl rfl hr ?_)
        refine wp_region_noPanic ?_
        refine wp_region_held_drew (S := fun w' => w'.cell? ⟨B, 4, none⟩ = some (.slice (some ⟨g, 0, none⟩) (1) c')) (by kernel_rfl) ?_ (fun hH => ?_)
        · exact SD.out
        refine' wpAnyH_take (i := 0) (v := _) rfl (by kernel_rfl) (by kernel_rfl) (by kernel_rfl) (fun _ _ _ h => h) (Or.inl ⟨by rfl, ?hy1⟩) (by assumption) ?rest1
        case hy1 => (intro w hSw; (try dsimp only at hSw); go_simp <;> with_reducible rfl)
        try simp only [Act.put, List.setIfInBounds_toArray, List.set_cons_zero, List.set_cons_succ, List.getElem_toArray, List.getElem_cons_succ, List.getElem_cons_zero]
        refine' wpAnyH_take (i := 1) (v := _) rfl (by kernel_rfl) (by kernel_rfl) (by kernel_rfl) (fun _ _ _ h => h) (Or.inl ⟨by rfl, ?hy2⟩) (by assumption) ?rest2
        case hy2 => (intro w hSw; (try dsimp only at hSw); go_simp <;> with_reducible rfl)
        try simp only [Act.put, List.setIfInBounds_toArray, List.set_cons_zero, List.set_cons_succ, List.getElem_toArray, List.getElem_cons_succ, List.getElem_cons_zero]
        refine' wpAnyH_take (i := 2) (v := _) rfl (by kernel_rfl) (by kernel_rfl) (by kernel_rfl) (fun _ _ _ h => h) (Or.inl ⟨by rfl, ?hy3⟩) (by assumption) ?rest3
        case hy3 => (intro w hSw; (try dsimp only at hSw); go_simp <;> with_reducible rfl)
        try simp only [Act.put, List.setIfInBounds_toArray, List.set_cons_zero, List.set_cons_succ, List.getElem_toArray, List.getElem_cons_succ, List.getElem_cons_zero]
        refine' wpAnyH_take (i := 3) (v := _) rfl (by kernel_rfl) (by kernel_rfl) (by kernel_rfl) (fun _ _ _ h => h) (Or.inl ⟨by rfl, ?hy4⟩) (by assumption) ?rest4
        case hy4 => (intro w hSw; (try dsimp only at hSw); go_simp <;> with_reducible rfl)
        try simp only [Act.put, List.setIfInBounds_toArray, List.set_cons_zero, List.set_cons_succ, List.getElem_toArray, List.getElem_cons_succ, List.getElem_cons_zero]
        refine wpAnyH_ready (rs := [4]) (by kernel_rfl) (by simp) (AllReadyH.cons rfl (fun K hK => ?_) AllReadyH.nil)
        simp only [List.getElem_toArray, List.getElem_cons_succ, List.getElem_cons_zero]
        go_simp
        (go_at_call 43; refine (Hmax.out _).mono ?_; rintro e w4 ⟨rfl, rfl⟩)
        refine hK.out _ _ ?_ (fun hH => ?_)
        · exact SD.out
        clear hK K
        try simp only [Act.put, List.setIfInBounds_toArray, List.set_cons_zero, List.set_cons_succ, List.getElem_toArray, List.getElem_cons_succ, List.getElem_cons_zero]
        refine' wpAnyH_take (i := 5) (v := _) rfl (by kernel_rfl) (by kernel_rfl) (by kernel_rfl) (fun _ _ _ h => h) (Or.inl ⟨by rfl, ?hy5⟩) (by assumption) ?rest5
        case hy5 => (intro w hSw; (try dsimp only at hSw); go_simp <;> with_reducible rfl)
        try simp only [Act.put, List.setIfInBounds_toArray, List.set_cons_zero, List.set_cons_succ, List.getElem_toArray, List.getElem_cons_succ, List.getElem_cons_zero]
        refine wpAnyH_done (by kernel_rfl) ?_ _
        refine NoPanic.normal ?_
        clear SD i0 i1 i2 i3 i4 x4 Y1 Y2 B3
        generalize (w3.setCell ⟨B, 4, none⟩ (.slice (some ⟨g, 0, none⟩) (1) c')).drew = W5 at *
        obtain ⟨i0, i1, i2, i3, i4⟩ := Z2.row5
        have x4 := Z2.thaw 4
        have FD := fresh_drop (α := Mk) (j := J.toNat) (L := [] ++ [⟨seq, off⟩]) (by simp) Z0.out (by omega)
        have hat6 := FD.at
        change At W5 (if c' = J.toNat then some ⟨g, 0, none⟩ else some ⟨g, J.toNat * 2, none⟩) _ at hat6
        generalize hDD : ([] ++ [⟨seq, off⟩] : List Mk).drop J.toNat = D at *
        have hDl : D.length = 1 - J.toNat := by rw [← hDD]; simp
        have hWB : Below w.heap.size w (W5.alloc (.cells #[] 61)).drew := (alloc0 B4.out _).drew
        have hb5 : w.heap.size + 1 < W5.heap.size := Z1.lt
        obtain ⟨v6, w6, hr6, hown6, hgrow6, hat7⟩ := app_mk (w.heap.size + 1 + 1) (.slice (some ⟨W5.heap.size, 0, none⟩) 0 0) [] D (if c' = J.toNat then some ⟨g, 0, none⟩ else some ⟨g, J.toNat * 2, none⟩) (c' - J.toNat) (W5.alloc (.cells #[] 61)).drew (by show _ ≤ (W5.alloc (.cells #[] 61)).heap.size; simp; omega)
          ⟨rfl, .inr ⟨W5.heap.size, 0, #[], rfl, by omega, heap_new W5 _, Nat.le_refl _, by simp [maxLen], rfl, rfl⟩⟩ (hat6.below (Below.drew (alloc0 (Below.refl _ _) _))) (by simp; omega)
        simp only [List.length_nil, Nat.zero_add, List.nil_append] at hown6
        have qB := Z2.lt
        have V1 := ((Z1.alloc (.cells #[] 61)).drew).kept hgrow6 (by intro h; have : w.heap.size + 1 = W5.heap.size := Option.some.inj h; omega)
        have V2 := ((Z2.alloc (.cells #[] 61)).drew).kept hgrow6 (by intro h; have : B = W5.heap.size := Option.some.inj h; omega)
        have B6 := hidP (hWB.grown hgrow6 hWB.size (fun k e => by have : W5.heap.size = k := Option.some.inj e; omega))
        obtain ⟨a6, c6, rfl, _⟩ := owns_form hown6
        have hsz6 : (W5.alloc (.cells #[] 61)).drew.heap.size = W5.heap.size + 1 := World.size_alloc _ _
        have far6 : ∀ k, k < W5.heap.size → some k ≠ (Value.slice a6 D.length c6).ownBlock := fun k hk => by
          rcases hat7 with e | e
          · rw [e]; intro h; have : k = W5.heap.size := Option.some.inj h; omega
          · rw [e]; intro h; have := Option.some.inj h; omega
        have FB := hidP (far6 B qB)
        have F1 := hidP (far6 (w.heap.size + 1) hb5)
        rw [hDl] at hr6
        have HD9 := hidP hDD
        have HOWN6 := hidP hown6
        have HDL := hidP hDl
        have hSA0 := (Z2.alloc (.cells #[] 61)).drew.row5.2.2.2.2
        have hS60 := V2.row5.2.2.2.2
        clear hgrow6 hat7 hown6 far6 hWB hat6 FD hDD hsz6 hr
        obtain ⟨m0, m1, m2, m3, m4⟩ := V1.row5
        have y0 := V1.thaw 0
        have y1 := V1.thaw 1
        have y2 := V1.thaw 2
        have y3 := V1.thaw 3
        have y4 := V1.thaw 4
        have z4 := V2.thaw 4
        rw [hDl] at FB F1 HOWN6
        clear hDl
        have hJ := HJ3.out
        by_cases hcj : c' = J.toNat
        · rw [if_pos hcj] at hr6
          subst hcj
          rw [Nat.sub_self] at hr6
          have h00 : 1 - J.toNat = 0 := by omega
          rw [h00] at hr6 FB F1 HOWN6 HDL
          clear h00
          have hH : (fun w' => w'.cell? ⟨B, 4, none⟩ = some (.slice (some ⟨g, 0, none⟩) (1) J.toNat)) W5.drew := i4
          have hSA : (fun w' => w'.cell? ⟨B, 4, none⟩ = some (.slice (some ⟨g, 0, none⟩) (1) J.toNat)) (W5.alloc (.cells #[] 61)).drew := hSA0
          have hS6 : (fun w' => w'.cell? ⟨B, 4, none⟩ = some (.slice (some ⟨g, 0, none⟩) (1) J.toNat)) w6 := hS60
          clear hSA0 hS60
          go_wp2_with fail
          refine wp_region_noPanic ?_
          refine region_upTo 12 (fun w' => w'.cell? ⟨B, 4, none⟩ = some (.slice (some ⟨g, 0, none⟩) (1) J.toNat)) (by kernel_rfl) ?_
          refine' upTo_taken (i := 1) (v := _) (by kernel_rfl) rfl (by kernel_rfl) (by decide) (by kernel_rfl) (by kernel_rfl) (fun _ _ _ h => h) (Or.inl ⟨by rfl, ?hy6⟩) (by assumption) ?rest6
          case hy6 => (intro w hSw; (try dsimp only at hSw); go_simp <;> with_reducible rfl)
          try simp only [Act.put, List.setIfInBounds_toArray, List.set_cons_zero, List.set_cons_succ, List.getElem_toArray, List.getElem_cons_succ, List.getElem_cons_zero]
          refine' upTo_taken (i := 2) (v := _) (by kernel_rfl) rfl (by kernel_rfl) (by decide) (by kernel_rfl) (by kernel_rfl) (fun _ _ _ h => h) (Or.inl ⟨by rfl, ?hy7⟩) (by assumption) ?rest7
          case hy7 => (intro w hSw; (try dsimp only at hSw); go_simp <;> with_reducible rfl)
          try simp only [Act.put, List.setIfInBounds_toArray, List.set_cons_zero, List.set_cons_succ, List.getElem_toArray, List.getElem_cons_succ, List.getElem_cons_zero]
          refine' upTo_taken (i := 3) (v := _) (by kernel_rfl) rfl (by kernel_rfl) (by decide) (by kernel_rfl) (by kernel_rfl) (fun _ _ _ h => h) (Or.inl ⟨by rfl, ?hy8⟩) (by assumption) ?rest8
          case hy8 => (intro w hSw; (try dsimp only at hSw); go_simp <;> with_reducible rfl)
          try simp only [Act.put, List.setIfInBounds_toArray, List.set_cons_zero, List.set_cons_succ, List.getElem_toArray, List.getElem_cons_succ, List.getElem_cons_zero]
          refine' upTo_taken (i := 4) (v := _) (by kernel_rfl) rfl (by kernel_rfl) (by decide) (by kernel_rfl) (by kernel_rfl) (fun _ _ _ h => h) (Or.inl ⟨by rfl, ?hy9⟩) (by assumption) ?rest9
          case hy9 => (intro w hSw; (try dsimp only at hSw); go_simp <;> with_reducible rfl)
          try simp only [Act.put, List.setIfInBounds_toArray, List.set_cons_zero, List.set_cons_succ, List.getElem_toArray, List.getElem_cons_succ, List.getElem_cons_zero]
          refine' upTo_taken (i := 5) (v := _) (by kernel_rfl) rfl (by kernel_rfl) (by decide) (by kernel_rfl) (by kernel_rfl) (fun _ _ _ h => h) (Or.inl ⟨by rfl, ?hy10⟩) (by assumption) ?rest10
          case hy10 => (intro w hSw; (try dsimp only at hSw); go_simp <;> with_reducible rfl)
          try simp only [Act.put, List.setIfInBounds_toArray, List.set_cons_zero, List.set_cons_succ, List.getElem_toArray, List.getElem_cons_succ, List.getElem_cons_zero]
          refine' upTo_taken (i := 6) (v := _) (by kernel_rfl) rfl (by kernel_rfl) (by decide) (by kernel_rfl) (by kernel_rfl) (fun _ _ _ h => h) (Or.inl ⟨by rfl, ?hy11⟩) (by assumption) ?rest11
          case hy11 => (intro w hSw; (try dsimp only at hSw); go_simp <;> with_reducible rfl)
          try simp only [Act.put, List.setIfInBounds_toArray, List.set_cons_zero, List.set_cons_succ, List.getElem_toArray, List.getElem_cons_succ, List.getElem_cons_zero]
          refine upTo_next2 (i := 0) (j := 7) (by kernel_rfl) rfl rfl (fun K hK => ?_) (fun K hK => ?_)
          · simp only [List.getElem_toArray, List.getElem_cons_succ, List.getElem_cons_zero]
            go_simp
            refine hK.out _ _ (.inr hSA) ?_
            clear hK K
            try simp only [Act.put, List.setIfInBounds_toArray, List.set_cons_zero, List.set_cons_succ, List.getElem_toArray, List.getElem_cons_succ, List.getElem_cons_zero]
            refine upTo_next (i := 7) (by kernel_rfl) rfl (fun K hK => ?_)
            simp only [List.getElem_toArray, List.getElem_cons_succ, List.getElem_cons_zero]
            go_simp
            go_at_call 43
            refine (Hmax.out _).mono ?_
            rintro e w4 ⟨rfl, rfl⟩
            refine hK.out _ _ (.inr hSA) ?_
            clear hK K
            try simp only [Act.put, List.setIfInBounds_toArray, List.set_cons_zero, List.set_cons_succ, List.getElem_toArray, List.getElem_cons_succ, List.getElem_cons_zero]
            refine' upTo_taken (i := 8) (v := _) (by kernel_rfl) rfl (by kernel_rfl) (by decide) (by kernel_rfl) (by kernel_rfl) (fun _ _ _ h => h) (Or.inl ⟨by rfl, ?hy12⟩) (by assumption) ?rest12
            case hy12 => (intro w hSw; (try dsimp only at hSw); go_simp <;> with_reducible rfl)
            try simp only [Act.put, List.setIfInBounds_toArray, List.set_cons_zero, List.set_cons_succ, List.getElem_toArray, List.getElem_cons_succ, List.getElem_cons_zero]
            refine' upTo_taken (i := 9) (v := _) (by kernel_rfl) rfl (by kernel_rfl) (by decide) (by kernel_rfl) (by kernel_rfl) (fun _ _ _ h => h) (Or.inl ⟨by rfl, ?hy13⟩) (by assumption) ?rest13
            case hy13 => (intro w hSw; (try dsimp only at hSw); go_simp <;> with_reducible rfl)
            try simp only [Act.put, List.setIfInBounds_toArray, List.set_cons_zero, List.set_cons_succ, List.getElem_toArray, List.getElem_cons_succ, List.getElem_cons_zero]
            refine upTo_next (i := 10) (by kernel_rfl) rfl (fun K hK => ?_)
            simp only [List.getElem_toArray, List.getElem_cons_succ, List.getElem_cons_zero]
            rw [if_pos (by rfl)]
            refine wp_append_is _ _ _ (by rfl) _ _ _ (by rfl) (by rfl) hr6 ?_
            refine hK.out _ _ (.inr hS6) ?_
            clear hK K
            try simp only [Act.put, List.setIfInBounds_toArray, List.set_cons_zero, List.set_cons_succ, List.getElem_toArray, List.getElem_cons_succ, List.getElem_cons_zero]
            refine' upTo_taken (i := 11) (v := _) (by kernel_rfl) rfl (by kernel_rfl) (by decide) (by kernel_rfl) (by kernel_rfl) (fun _ _ _ h => h) (Or.inl ⟨by rfl, ?hy14⟩) (by assumption) ?rest14
            case hy14 => (intro w hSw; (try dsimp only at hSw); go_simp <;> with_reducible rfl)
            try simp only [Act.put, List.setIfInBounds_toArray, List.set_cons_zero, List.set_cons_succ, List.getElem_toArray, List.getElem_cons_succ, List.getElem_cons_zero]
            refine upTo_next (i := 12) (by kernel_rfl) rfl (fun K hK => ?_)
            simp only [List.getElem_toArray, List.getElem_cons_succ, List.getElem_cons_zero]
            go_simp
            refine hK.out _ _ (.inl rfl) ?_
            clear hK K
            try simp only [Act.put, List.setIfInBounds_toArray, List.set_cons_zero, List.set_cons_succ, List.getElem_toArray, List.getElem_cons_succ, List.getElem_cons_zero]
            refine upTo_done (by kernel_rfl) ?_ _
            refine NoPanic.normal ?_
            clear hH hSA hS6 hJ
            obtain ⟨o0, o1, o2, o3, o4⟩ := V2.row5
            go_wp2
            have z : Blk _ (w.heap.size + 1) 26 #[.int .i64 row, .int .i64 who, .int .i64 ep, .int .i64 seq, .slice a6 0 c6] := (((((V1.other (B' := B) (by omega) 4 (.slice a6 0 c6)).setAt 0 (.int .i64 row)).setAt 1 (.int .i64 who)).setAt 2 (.int .i64 ep)).setAt 3 (.int .i64 seq)).setAt 4 (.slice a6 0 c6)
            obtain ⟨e0, e1, e2, e3, e4⟩ := z.row5
            exact bodyPost_ret (v := .agg #[.int .i64 row, .int .i64 who, .int .i64 ep, .int .i64 seq, .slice a6 0 c6]) (by simp [results, Try.results13, go_sem, e0, e1, e2, e3, e4]) rfl
              ⟨_, by rw [HE.out, HS.out], by
                rw [HM.out, EL.out, HJ2.out, HD9.out]
                exact owns_n (α := Mk) (l := D) HDL.out.symm (owns_mono (owns_set (owns_set (owns_set (owns_set (owns_set (owns_set HOWN6.out FB.out) F1.out) F1.out) F1.out) F1.out) F1.out) (show w.heap.size ≤ w.heap.size + 1 + 1 by omega)),
              bl_set (bl_set (bl_set (bl_set (bl_set (bl_set B6.out (by omega) _) (by omega) _) (by omega) _) (by omega) _) (by omega) _) (by omega) _⟩
          · simp only [List.getElem_toArray, List.getElem_cons_succ, List.getElem_cons_zero]
            go_simp
            go_at_call 43
            refine (Hmax.out _).mono ?_
            rintro e w4 ⟨rfl, rfl⟩
            refine hK.out _ _ (.inr hH) ?_
            clear hK K
            try simp only [Act.put, List.setIfInBounds_toArray, List.set_cons_zero, List.set_cons_succ, List.getElem_toArray, List.getElem_cons_succ, List.getElem_cons_zero]
            refine' upTo_taken (i := 8) (v := _) (by kernel_rfl) rfl (by kernel_rfl) (by decide) (by kernel_rfl) (by kernel_rfl) (fun _ _ _ h => h) (Or.inl ⟨by rfl, ?hy15⟩) (by assumption) ?rest15
            case hy15 => (intro w hSw; (try dsimp only at hSw); go_simp <;> with_reducible rfl)
            try simp only [Act.put, List.setIfInBounds_toArray, List.set_cons_zero, List.set_cons_succ, List.getElem_toArray, List.getElem_cons_succ, List.getElem_cons_zero]
            refine' upTo_taken (i := 9) (v := _) (by kernel_rfl) rfl (by kernel_rfl) (by decide) (by kernel_rfl) (by kernel_rfl) (fun _ _ _ h => h) (Or.inl ⟨by rfl, ?hy16⟩) (by assumption) ?rest16
            case hy16 => (intro w hSw; (try dsimp only at hSw); go_simp <;> with_reducible rfl)
            try simp only [Act.put, List.setIfInBounds_toArray, List.set_cons_zero, List.set_cons_succ, List.getElem_toArray, List.getElem_cons_succ, List.getElem_cons_zero]
            refine upTo_next (i := 0) (by kernel_rfl) rfl (fun K hK => ?_)
            simp only [List.getElem_toArray, List.getElem_cons_succ, List.getElem_cons_zero]
            go_simp
            refine hK.out _ _ (.inr hSA) ?_
            clear hK K
            try simp only [Act.put, List.setIfInBounds_toArray, List.set_cons_zero, List.set_cons_succ, List.getElem_toArray, List.getElem_cons_succ, List.getElem_cons_zero]
            refine upTo_next (i := 10) (by kernel_rfl) rfl (fun K hK => ?_)
            simp only [List.getElem_toArray, List.getElem_cons_succ, List.getElem_cons_zero]
            rw [if_pos (by rfl)]
            refine wp_append_is _ _ _ (by rfl) _ _ _ (by rfl) (by rfl) hr6 ?_
            refine hK.out _ _ (.inr hS6) ?_
            clear hK K
            try simp only [Act.put, List.setIfInBounds_toArray, List.set_cons_zero, List.set_cons_succ, List.getElem_toArray, List.getElem_cons_succ, List.getElem_cons_zero]
            refine' upTo_taken (i := 11) (v := _) (by kernel_rfl) rfl (by kernel_rfl) (by decide) (by kernel_rfl) (by kernel_rfl) (fun _ _ _ h => h) (Or.inl ⟨by rfl, ?hy17⟩) (by assumption) ?rest17
            case hy17 => (intro w hSw; (try dsimp only at hSw); go_simp <;> with_reducible rfl)
            try simp only [Act.put, List.setIfInBounds_toArray, List.set_cons_zero, List.set_cons_succ, List.getElem_toArray, List.getElem_cons_succ, List.getElem_cons_zero]
            refine upTo_next (i := 12) (by kernel_rfl) rfl (fun K hK => ?_)
            simp only [List.getElem_toArray, List.getElem_cons_succ, List.getElem_cons_zero]
            go_simp
            refine hK.out _ _ (.inl rfl) ?_
            clear hK K
            try simp only [Act.put, List.setIfInBounds_toArray, List.set_cons_zero, List.set_cons_succ, List.getElem_toArray, List.getElem_cons_succ, List.getElem_cons_zero]
            refine upTo_done (by kernel_rfl) ?_ _
            refine NoPanic.normal ?_
            clear hH hSA hS6 hJ
            obtain ⟨o0, o1, o2, o3, o4⟩ := V2.row5
            go_wp2
            have z : Blk _ (w.heap.size + 1) 26 #[.int .i64 row, .int .i64 who, .int .i64 ep, .int .i64 seq, .slice a6 0 c6] := (((((V1.other (B' := B) (by omega) 4 (.slice a6 0 c6)).setAt 0 (.int .i64 row)).setAt 1 (.int .i64 who)).setAt 2 (.int .i64 ep)).setAt 3 (.int .i64 seq)).setAt 4 (.slice a6 0 c6)
            obtain ⟨e0, e1, e2, e3, e4⟩ := z.row5
            exact bodyPost_ret (v := .agg #[.int .i64 row, .int .i64 who, .int .i64 ep, .int .i64 seq, .slice a6 0 c6]) (by simp [results, Try.results13, go_sem, e0, e1, e2, e3, e4]) rfl
              ⟨_, by rw [HE.out, HS.out], by
                rw [HM.out, EL.out, HJ2.out, HD9.out]
                exact owns_n (α := Mk) (l := D) HDL.out.symm (owns_mono (owns_set (owns_set (owns_set (owns_set (owns_set (owns_set HOWN6.out FB.out) F1.out) F1.out) F1.out) F1.out) F1.out) (show w.heap.size ≤ w.heap.size + 1 + 1 by omega)),
              bl_set (bl_set (bl_set (bl_set (bl_set (bl_set B6.out (by omega) _) (by omega) _) (by omega) _) (by omega) _) (by omega) _) (by omega) _⟩

        · rw [if_neg hcj] at hr6
          have hH : (fun w' => w'.cell? ⟨B, 4, none⟩ = some (.slice (some ⟨g, 0, none⟩) (1) c')) W5.drew := i4
          have hSA : (fun w' => w'.cell? ⟨B, 4, none⟩ = some (.slice (some ⟨g, 0, none⟩) (1) c')) (W5.alloc (.cells #[] 61)).drew := hSA0
          have hS6 : (fun w' => w'.cell? ⟨B, 4, none⟩ = some (.slice (some ⟨g, 0, none⟩) (1) c')) w6 := hS60
          clear hSA0 hS60
          go_wp2_with fail
          refine wp_region_noPanic ?_
          refine region_upTo 12 (fun w' => w'.cell? ⟨B, 4, none⟩ = some (.slice (some ⟨g, 0, none⟩) (1) c')) (by kernel_rfl) ?_
          refine' upTo_taken (i := 1) (v := _) (by kernel_rfl) rfl (by kernel_rfl) (by decide) (by kernel_rfl) (by kernel_rfl) (fun _ _ _ h => h) (Or.inl ⟨by rfl, ?hy18⟩) (by assumption) ?rest18
          case hy18 => (intro w hSw; (try dsimp only at hSw); go_simp <;> with_reducible rfl)
          try simp only [Act.put, List.setIfInBounds_toArray, List.set_cons_zero, List.set_cons_succ, List.getElem_toArray, List.getElem_cons_succ, List.getElem_cons_zero]
          refine' upTo_taken (i := 2) (v := _) (by kernel_rfl) rfl (by kernel_rfl) (by decide) (by kernel_rfl) (by kernel_rfl) (fun _ _ _ h => h) (Or.inl ⟨by rfl, ?hy19⟩) (by assumption) ?rest19
          case hy19 => (intro w hSw; (try dsimp only at hSw); go_simp <;> with_reducible rfl)
          try simp only [Act.put, List.setIfInBounds_toArray, List.set_cons_zero, List.set_cons_succ, List.getElem_toArray, List.getElem_cons_succ, List.getElem_cons_zero]
          refine' upTo_taken (i := 3) (v := _) (by kernel_rfl) rfl (by kernel_rfl) (by decide) (by kernel_rfl) (by kernel_rfl) (fun _ _ _ h => h) (Or.inl ⟨by rfl, ?hy20⟩) (by assumption) ?rest20
          case hy20 => (intro w hSw; (try dsimp only at hSw); go_simp <;> with_reducible rfl)
          try simp only [Act.put, List.setIfInBounds_toArray, List.set_cons_zero, List.set_cons_succ, List.getElem_toArray, List.getElem_cons_succ, List.getElem_cons_zero]
          refine' upTo_taken (i := 4) (v := _) (by kernel_rfl) rfl (by kernel_rfl) (by decide) (by kernel_rfl) (by kernel_rfl) (fun _ _ _ h => h) (Or.inl ⟨by rfl, ?hy21⟩) (by assumption) ?rest21
          case hy21 => (intro w hSw; (try dsimp only at hSw); go_simp <;> with_reducible rfl)
          try simp only [Act.put, List.setIfInBounds_toArray, List.set_cons_zero, List.set_cons_succ, List.getElem_toArray, List.getElem_cons_succ, List.getElem_cons_zero]
          refine' upTo_taken (i := 5) (v := _) (by kernel_rfl) rfl (by kernel_rfl) (by decide) (by kernel_rfl) (by kernel_rfl) (fun _ _ _ h => h) (Or.inl ⟨by rfl, ?hy22⟩) (by assumption) ?rest22
          case hy22 => (intro w hSw; (try dsimp only at hSw); go_simp <;> with_reducible rfl)
          try simp only [Act.put, List.setIfInBounds_toArray, List.set_cons_zero, List.set_cons_succ, List.getElem_toArray, List.getElem_cons_succ, List.getElem_cons_zero]
          refine' upTo_taken (i := 6) (v := _) (by kernel_rfl) rfl (by kernel_rfl) (by decide) (by kernel_rfl) (by kernel_rfl) (fun _ _ _ h => h) (Or.inl ⟨by rfl, ?hy23⟩) (by assumption) ?rest23
          case hy23 => (intro w hSw; (try dsimp only at hSw); go_simp <;> with_reducible rfl)
          try simp only [Act.put, List.setIfInBounds_toArray, List.set_cons_zero, List.set_cons_succ, List.getElem_toArray, List.getElem_cons_succ, List.getElem_cons_zero]
          refine upTo_next2 (i := 0) (j := 7) (by kernel_rfl) rfl rfl (fun K hK => ?_) (fun K hK => ?_)
          · simp only [List.getElem_toArray, List.getElem_cons_succ, List.getElem_cons_zero]
            go_simp
            refine hK.out _ _ (.inr hSA) ?_
            clear hK K
            try simp only [Act.put, List.setIfInBounds_toArray, List.set_cons_zero, List.set_cons_succ, List.getElem_toArray, List.getElem_cons_succ, List.getElem_cons_zero]
            refine upTo_next (i := 7) (by kernel_rfl) rfl (fun K hK => ?_)
            simp only [List.getElem_toArray, List.getElem_cons_succ, List.getElem_cons_zero]
            go_simp
            go_at_call 43
            refine (Hmax.out _).mono ?_
            rintro e w4 ⟨rfl, rfl⟩
            refine hK.out _ _ (.inr hSA) ?_
            clear hK K
            try simp only [Act.put, List.setIfInBounds_toArray, List.set_cons_zero, List.set_cons_succ, List.getElem_toArray, List.getElem_cons_succ, List.getElem_cons_zero]
            refine' upTo_taken (i := 8) (v := _) (by kernel_rfl) rfl (by kernel_rfl) (by decide) (by kernel_rfl) (by kernel_rfl) (fun _ _ _ h => h) (Or.inl ⟨by rfl, ?hy24⟩) (by assumption) ?rest24
            case hy24 => (intro w hSw; (try dsimp only at hSw); go_simp <;> with_reducible rfl)
            try simp only [Act.put, List.setIfInBounds_toArray, List.set_cons_zero, List.set_cons_succ, List.getElem_toArray, List.getElem_cons_succ, List.getElem_cons_zero]
            refine' upTo_taken (i := 9) (v := _) (by kernel_rfl) rfl (by kernel_rfl) (by decide) (by kernel_rfl) (by kernel_rfl) (fun _ _ _ h => h) (Or.inl ⟨by rfl, ?hy25⟩) (by assumption) ?rest25
            case hy25 => (intro w hSw; (try dsimp only at hSw); go_simp <;> with_reducible rfl)
            try simp only [Act.put, List.setIfInBounds_toArray, List.set_cons_zero, List.set_cons_succ, List.getElem_toArray, List.getElem_cons_succ, List.getElem_cons_zero]
            refine upTo_next (i := 10) (by kernel_rfl) rfl (fun K hK => ?_)
            simp only [List.getElem_toArray, List.getElem_cons_succ, List.getElem_cons_zero]
            rw [if_pos (by rfl)]
            refine wp_append_is _ _ _ (by rfl) _ _ _ (by rfl) (by rfl) hr6 ?_
            refine hK.out _ _ (.inr hS6) ?_
            clear hK K
            try simp only [Act.put, List.setIfInBounds_toArray, List.set_cons_zero, List.set_cons_succ, List.getElem_toArray, List.getElem_cons_succ, List.getElem_cons_zero]
            refine' upTo_taken (i := 11) (v := _) (by kernel_rfl) rfl (by kernel_rfl) (by decide) (by kernel_rfl) (by kernel_rfl) (fun _ _ _ h => h) (Or.inl ⟨by rfl, ?hy26⟩) (by assumption) ?rest26
            case hy26 => (intro w hSw; (try dsimp only at hSw); go_simp <;> with_reducible rfl)
            try simp only [Act.put, List.setIfInBounds_toArray, List.set_cons_zero, List.set_cons_succ, List.getElem_toArray, List.getElem_cons_succ, List.getElem_cons_zero]
            refine upTo_next (i := 12) (by kernel_rfl) rfl (fun K hK => ?_)
            simp only [List.getElem_toArray, List.getElem_cons_succ, List.getElem_cons_zero]
            go_simp
            refine hK.out _ _ (.inl rfl) ?_
            clear hK K
            try simp only [Act.put, List.setIfInBounds_toArray, List.set_cons_zero, List.set_cons_succ, List.getElem_toArray, List.getElem_cons_succ, List.getElem_cons_zero]
            refine upTo_done (by kernel_rfl) ?_ _
            refine NoPanic.normal ?_
            clear hH hSA hS6 hJ
            obtain ⟨o0, o1, o2, o3, o4⟩ := V2.row5
            go_wp2
            have z : Blk _ (w.heap.size + 1) 26 #[.int .i64 row, .int .i64 who, .int .i64 ep, .int .i64 seq, .slice a6 (1 - J.toNat) c6] := (((((V1.other (B' := B) (by omega) 4 (.slice a6 (1 - J.toNat) c6)).setAt 0 (.int .i64 row)).setAt 1 (.int .i64 who)).setAt 2 (.int .i64 ep)).setAt 3 (.int .i64 seq)).setAt 4 (.slice a6 (1 - J.toNat) c6)
            obtain ⟨e0, e1, e2, e3, e4⟩ := z.row5
            exact bodyPost_ret (v := .agg #[.int .i64 row, .int .i64 who, .int .i64 ep, .int .i64 seq, .slice a6 (1 - J.toNat) c6]) (by simp [results, Try.results13, go_sem, e0, e1, e2, e3, e4]) rfl
              ⟨_, by rw [HE.out, HS.out], by
                rw [HM.out, EL.out, HJ2.out, HD9.out]
                exact owns_n (α := Mk) (l := D) HDL.out.symm (owns_mono (owns_set (owns_set (owns_set (owns_set (owns_set (owns_set HOWN6.out FB.out) F1.out) F1.out) F1.out) F1.out) F1.out) (show w.heap.size ≤ w.heap.size + 1 + 1 by omega)),
              bl_set (bl_set (bl_set (bl_set (bl_set (bl_set B6.out (by omega) _) (by omega) _) (by omega) _) (by omega) _) (by omega) _) (by omega) _⟩
          · simp only [List.getElem_toArray, List.getElem_cons_succ, List.getElem_cons_zero]
            go_simp
            go_at_call 43
            refine (Hmax.out _).mono ?_
            rintro e w4 ⟨rfl, rfl⟩
            refine hK.out _ _ (.inr hH) ?_
            clear hK K
            try simp only [Act.put, List.setIfInBounds_toArray, List.set_cons_zero, List.set_cons_succ, List.getElem_toArray, List.getElem_cons_succ, List.getElem_cons_zero]
            refine' upTo_taken (i := 8) (v := _) (by kernel_rfl) rfl (by kernel_rfl) (by decide) (by kernel_rfl) (by kernel_rfl) (fun _ _ _ h => h) (Or.inl ⟨by rfl, ?hy27⟩) (by assumption) ?rest27
            case hy27 => (intro w hSw; (try dsimp only at hSw); go_simp <;> with_reducible rfl)
            try simp only [Act.put, List.setIfInBounds_toArray, List.set_cons_zero, List.set_cons_succ, List.getElem_toArray, List.getElem_cons_succ, List.getElem_cons_zero]
            refine' upTo_taken (i := 9) (v := _) (by kernel_rfl) rfl (by kernel_rfl) (by decide) (by kernel_rfl) (by kernel_rfl) (fun _ _ _ h => h) (Or.inl ⟨by rfl, ?hy28⟩) (by assumption) ?rest28
            case hy28 => (intro w hSw; (try dsimp only at hSw); go_simp <;> with_reducible rfl)
            try simp only [Act.put, List.setIfInBounds_toArray, List.set_cons_zero, List.set_cons_succ, List.getElem_toArray, List.getElem_cons_succ, List.getElem_cons_zero]
            refine upTo_next (i := 0) (by kernel_rfl) rfl (fun K hK => ?_)
            simp only [List.getElem_toArray, List.getElem_cons_succ, List.getElem_cons_zero]
            go_simp
            refine hK.out _ _ (.inr hSA) ?_
            clear hK K
            try simp only [Act.put, List.setIfInBounds_toArray, List.set_cons_zero, List.set_cons_succ, List.getElem_toArray, List.getElem_cons_succ, List.getElem_cons_zero]
            refine upTo_next (i := 10) (by kernel_rfl) rfl (fun K hK => ?_)
            simp only [List.getElem_toArray, List.getElem_cons_succ, List.getElem_cons_zero]
            rw [if_pos (by rfl)]
            refine wp_append_is _ _ _ (by rfl) _ _ _ (by rfl) (by rfl) hr6 ?_
            refine hK.out _ _ (.inr hS6) ?_
            clear hK K
            try simp only [Act.put, List.setIfInBounds_toArray, List.set_cons_zero, List.set_cons_succ, List.getElem_toArray, List.getElem_cons_succ, List.getElem_cons_zero]
            refine' upTo_taken (i := 11) (v := _) (by kernel_rfl) rfl (by kernel_rfl) (by decide) (by kernel_rfl) (by kernel_rfl) (fun _ _ _ h => h) (Or.inl ⟨by rfl, ?hy29⟩) (by assumption) ?rest29
            case hy29 => (intro w hSw; (try dsimp only at hSw); go_simp <;> with_reducible rfl)
            try simp only [Act.put, List.setIfInBounds_toArray, List.set_cons_zero, List.set_cons_succ, List.getElem_toArray, List.getElem_cons_succ, List.getElem_cons_zero]
            refine upTo_next (i := 12) (by kernel_rfl) rfl (fun K hK => ?_)
            simp only [List.getElem_toArray, List.getElem_cons_succ, List.getElem_cons_zero]
            go_simp
            refine hK.out _ _ (.inl rfl) ?_
            clear hK K
            try simp only [Act.put, List.setIfInBounds_toArray, List.set_cons_zero, List.set_cons_succ, List.getElem_toArray, List.getElem_cons_succ, List.getElem_cons_zero]
            refine upTo_done (by kernel_rfl) ?_ _
            refine NoPanic.normal ?_
            clear hH hSA hS6 hJ
            obtain ⟨o0, o1, o2, o3, o4⟩ := V2.row5
            go_wp2
            have z : Blk _ (w.heap.size + 1) 26 #[.int .i64 row, .int .i64 who, .int .i64 ep, .int .i64 seq, .slice a6 (1 - J.toNat) c6] := (((((V1.other (B' := B) (by omega) 4 (.slice a6 (1 - J.toNat) c6)).setAt 0 (.int .i64 row)).setAt 1 (.int .i64 who)).setAt 2 (.int .i64 ep)).setAt 3 (.int .i64 seq)).setAt 4 (.slice a6 (1 - J.toNat) c6)
            obtain ⟨e0, e1, e2, e3, e4⟩ := z.row5
            exact bodyPost_ret (v := .agg #[.int .i64 row, .int .i64 who, .int .i64 ep, .int .i64 seq, .slice a6 (1 - J.toNat) c6]) (by simp [results, Try.results13, go_sem, e0, e1, e2, e3, e4]) rfl
              ⟨_, by rw [HE.out, HS.out], by
                rw [HM.out, EL.out, HJ2.out, HD9.out]
                exact owns_n (α := Mk) (l := D) HDL.out.symm (owns_mono (owns_set (owns_set (owns_set (owns_set (owns_set (owns_set HOWN6.out FB.out) F1.out) F1.out) F1.out) F1.out) F1.out) (show w.heap.size ≤ w.heap.size + 1 + 1 by omega)),
              bl_set (bl_set (bl_set (bl_set (bl_set (bl_set B6.out (by omega) _) (by omega) _) (by omega) _) (by omega) _) (by omega) _) (by omega) _⟩

      · have hj : (1) - window.toNat = 0 := by omega
        go_wp2_with (at_builtin; refine wpList_append_is rfl _ _ _ rfl _ _ _ rfl rfl hr ?_)
        refine wp_region_noPanic ?_
        refine wp_region_held_drew (S := fun w' => w'.cell? ⟨B, 4, none⟩ = some (.slice (some ⟨g, 0, none⟩) (1) c')) (by kernel_rfl) ?_ (fun hH => ?_)
        · exact SD.out
        refine' wpAnyH_take (i := 0) (v := _) rfl (by kernel_rfl) (by kernel_rfl) (by kernel_rfl) (fun _ _ _ h => h) (Or.inl ⟨by rfl, ?hyb1⟩) (by assumption) ?restb1
        case hyb1 => (intro w hSw; (try dsimp only at hSw); go_simp <;> with_reducible rfl)
        try simp only [Act.put, List.setIfInBounds_toArray, List.set_cons_zero, List.set_cons_succ, List.getElem_toArray, List.getElem_cons_succ, List.getElem_cons_zero]
        refine' wpAnyH_take (i := 1) (v := _) rfl (by kernel_rfl) (by kernel_rfl) (by kernel_rfl) (fun _ _ _ h => h) (Or.inl ⟨by rfl, ?hyb2⟩) (by assumption) ?restb2
        case hyb2 => (intro w hSw; (try dsimp only at hSw); go_simp <;> with_reducible rfl)
        try simp only [Act.put, List.setIfInBounds_toArray, List.set_cons_zero, List.set_cons_succ, List.getElem_toArray, List.getElem_cons_succ, List.getElem_cons_zero]
        refine' wpAnyH_take (i := 2) (v := _) rfl (by kernel_rfl) (by kernel_rfl) (by kernel_rfl) (fun _ _ _ h => h) (Or.inl ⟨by rfl, ?hyb3⟩) (by assumption) ?restb3
        case hyb3 => (intro w hSw; (try dsimp only at hSw); go_simp <;> with_reducible rfl)
        try simp only [Act.put, List.setIfInBounds_toArray, List.set_cons_zero, List.set_cons_succ, List.getElem_toArray, List.getElem_cons_succ, List.getElem_cons_zero]
        refine' wpAnyH_take (i := 3) (v := _) rfl (by kernel_rfl) (by kernel_rfl) (by kernel_rfl) (fun _ _ _ h => h) (Or.inl ⟨by rfl, ?hyb4⟩) (by assumption) ?restb4
        case hyb4 => (intro w hSw; (try dsimp only at hSw); go_simp <;> with_reducible rfl)
        try simp only [Act.put, List.setIfInBounds_toArray, List.set_cons_zero, List.set_cons_succ, List.getElem_toArray, List.getElem_cons_succ, List.getElem_cons_zero]
        refine wpAnyH_ready (rs := [4]) (by kernel_rfl) (by simp) (AllReadyH.cons rfl (fun K hK => ?_) AllReadyH.nil)
        simp only [List.getElem_toArray, List.getElem_cons_succ, List.getElem_cons_zero]
        go_simp
        (go_at_call 43; refine (Hmax.out _).mono ?_; rintro e w4 ⟨rfl, rfl⟩)
        refine hK.out _ _ ?_ (fun hH => ?_)
        · exact SD.out
        clear hK K
        try simp only [Act.put, List.setIfInBounds_toArray, List.set_cons_zero, List.set_cons_succ, List.getElem_toArray, List.getElem_cons_succ, List.getElem_cons_zero]
        refine' wpAnyH_take (i := 5) (v := _) rfl (by kernel_rfl) (by kernel_rfl) (by kernel_rfl) (fun _ _ _ h => h) (Or.inl ⟨by rfl, ?hyb5⟩) (by assumption) ?restb5
        case hyb5 => (intro w hSw; (try dsimp only at hSw); go_simp <;> with_reducible rfl)
        try simp only [Act.put, List.setIfInBounds_toArray, List.set_cons_zero, List.set_cons_succ, List.getElem_toArray, List.getElem_cons_succ, List.getElem_cons_zero]
        refine wpAnyH_done (by kernel_rfl) ?_ _
        refine NoPanic.normal ?_
        clear SD i0 i1 i2 i3 i4 x4 Y1 Y2 B3
        generalize (w3.setCell ⟨B, 4, none⟩ (.slice (some ⟨g, 0, none⟩) (1) c')).drew = W5 at *
        obtain ⟨i0, i1, i2, i3, i4⟩ := Z2.row5
        obtain ⟨m0, m1, m2, m3, m4⟩ := Z1.row5
        have y0 := Z1.thaw 0
        have y1 := Z1.thaw 1
        have y2 := Z1.thaw 2
        have y3 := Z1.thaw 3
        have y4 := Z1.thaw 4
        go_wp2
        have z : Blk _ (w.heap.size + 1) 26 #[.int .i64 row, .int .i64 who, .int .i64 ep, .int .i64 seq, .slice (some ⟨g, 0, none⟩) (1) c'] := ((((Z1.setAt 0 (.int .i64 row)).setAt 1 (.int .i64 who)).setAt 2 (.int .i64 ep)).setAt 3 (.int .i64 seq)).setAt 4 (.slice (some ⟨g, 0, none⟩) (1) c')
        obtain ⟨e0, e1, e2, e3, e4⟩ := z.row5
        have far9 : some (w.heap.size + 1) ≠ (Value.slice (some ⟨g, 0, none⟩) (1) c').ownBlock := owns_far Z0.out (by omega)
        exact bodyPost_ret (v := .agg #[.int .i64 row, .int .i64 who, .int .i64 ep, .int .i64 seq, .slice (some ⟨g, 0, none⟩) (1) c']) (by simp [results, Try.results13, go_sem, e0, e1, e2, e3, e4]) rfl
          ⟨_, by rw [HE.out, HS.out], by
            rw [HM.out, EL.out, hj]
            exact owns_n (α := Mk) (l := [] ++ [⟨seq, off⟩]) (by simp) (owns_mono (owns_set (owns_set (owns_set (owns_set (owns_set Z0.out far9) far9) far9) far9) far9) (show w.heap.size ≤ w.heap.size + 1 + 1 by omega)),
          bl_set (bl_set (bl_set (bl_set (bl_set B4.out (by omega) _) (by omega) _) (by omega) _) (by omega) _) (by omega) _⟩
    · have hx : ep = epoch := by omega
      have HB : Hid (putB epoch l ep = l) := by show _ = _; simp [putB, he]
      clear he hep
      subst hx
      have hX : At ((((w2).setCell ⟨B, 2, none⟩ (.int .i64 ep)).setCell ⟨B, 3, none⟩ (.int .i64 seq)).alloc (.cells #[.int .i64 seq, .int .i64 off] 61)) (some ⟨w2.heap.size, 0, none⟩) ([⟨seq, off⟩] : List Mk) := by
        have bx := Blk.new (((w2).setCell ⟨B, 2, none⟩ (.int .i64 ep)).setCell ⟨B, 3, none⟩ (.int .i64 seq)) 61 #[.int .i64 seq, .int .i64 off]
        have e : (((w2).setCell ⟨B, 2, none⟩ (.int .i64 ep)).setCell ⟨B, 3, none⟩ (.int .i64 seq)).heap.size = w2.heap.size := by simp
        rw [e] at bx
        exact .inr ⟨w2.heap.size, 0, rfl, by simp, fun j u hu => bx.cell (i := 0 + j) (by simpa [flat, Cel.cs] using hu)⟩
      have hWB : Below w.heap.size w ((((w2).setCell ⟨B, 2, none⟩ (.int .i64 ep)).setCell ⟨B, 3, none⟩ (.int .i64 seq)).alloc (.cells #[.int .i64 seq, .int .i64 off] 61)) := alloc0 (bl_set (bl_set (HB2.out) (by omega) _) (by omega) _) _
      obtain ⟨v', w3, hr, hown3, hgrow, hat⟩ := app_mk (w.heap.size + 1 + 1) (.slice a l.length c) l [⟨seq, off⟩] (some ⟨w2.heap.size, 0, none⟩) 1 ((((w2).setCell ⟨B, 2, none⟩ (.int .i64 ep)).setCell ⟨B, 3, none⟩ (.int .i64 seq)).alloc (.cells #[.int .i64 seq, .int .i64 off] 61)) (by simp; omega) (owns_alloc (owns_set (owns_set Hown2.out far2) far2) _) hX (by first | (simp; done) | (simp; omega))
      simp only [List.length_cons, List.length_nil, Nat.zero_add] at hown3 hr
      have far3 : some B ≠ (Value.slice a l.length c).ownBlock := far2
      have Y1 := ((((r1).other (B' := B) (by omega) 2 (.int .i64 ep)).other (B' := B) (by omega) 3 (.int .i64 seq)).alloc (.cells #[.int .i64 seq, .int .i64 off] 61)).kept hgrow (far1)
      have Y2 := (((r2.setAt 2 (.int .i64 ep)).setAt 3 (.int .i64 seq)).alloc (.cells #[.int .i64 seq, .int .i64 off] 61)).kept hgrow far3
      have hsz : ((((w2).setCell ⟨B, 2, none⟩ (.int .i64 ep)).setCell ⟨B, 3, none⟩ (.int .i64 seq)).alloc (.cells #[.int .i64 seq, .int .i64 off] 61)).heap.size = w2.heap.size + 1 := by simp
      have B3 := hidP (hWB.grown hgrow hWB.size (fun k e => by exact Nat.le_of_not_lt fun h => owns_far Hown2.out (show k < w.heap.size + 1 + 1 by omega) e.symm))
      obtain ⟨g, c', hgB, hg3, hnc, hmc, rfl⟩ : ∃ g c', w.heap.size + 1 + 1 ≤ g ∧ g < w3.heap.size ∧ l.length + 1 ≤ c' ∧ c' ≤ maxLen ∧ v' = .slice (some ⟨g, 0, none⟩) (l.length + 1) c' := by
        rcases hown3.2 with ⟨_, h⟩ | ⟨g, c1, cur, e1, hB, hb, h1, h2, _⟩
        · omega
        · exact ⟨g, c1, hB, Blk.lt (show Blk w3 g _ cur from hb), h1, h2, e1⟩
      have hgB' : g ≠ B := fun h => by
        rcases hat with e | e
        · exact far3 (by rw [← e, ← h]; rfl)
        · rw [hsz] at e; have : g = w2.heap.size + 1 := Option.some.inj e; omega
      have hw3 : w2.heap.size ≤ w3.heap.size := by have := hgrow.size; rw [hsz] at this; omega
      unfold maxLen at hmc
      have eL : lastN window (putB ep l ep ++ [⟨seq, off⟩]) = (l ++ [⟨seq, off⟩] : List Mk).drop ((l.length + 1) - window.toNat) := by rw [HB.out]; simp [lastN]
      have EL := hidP eL
      have Z2 : Blk _ B 26 #[.int .i64 row, .int .i64 who, .int .i64 ep, .int .i64 seq, .slice (some ⟨g, 0, none⟩) (l.length + 1) c'] := (Y2.setAt 4 (.slice (some ⟨g, 0, none⟩) (l.length + 1) c')).drew
      have Z1 := (Y1.other (B' := B) (by omega) 4 (.slice (some ⟨g, 0, none⟩) (l.length + 1) c')).drew
      have ownB : some B ≠ (Value.slice (some ⟨g, 0, none⟩) (l.length + 1) c').ownBlock := fun h => hgB' (by have : B = g := Option.some.inj h; exact this.symm)
      have Z0 : Hid ((w3.setCell ⟨B, 4, none⟩ (.slice (some ⟨g, 0, none⟩) (l.length + 1) c')).drew.ownsRow (w.heap.size + 1 + 1) 61 2 (.slice (some ⟨g, 0, none⟩) (l.length + 1) c') (l.length + 1) (flat (l ++ [(⟨seq, off⟩ : Mk)]))) := owns_set hown3 ownB
      have B4 : Hid (Below w.heap.size w (w3.setCell ⟨B, 4, none⟩ (.slice (some ⟨g, 0, none⟩) (l.length + 1) c')).drew) := (bl_set B3.out (by omega) _).drew
      have SD := hidP Z2.row5.2.2.2.2
      obtain ⟨i0, i1, i2, i3, i4⟩ := Y2.row5
      have x4 := Y2.thaw 4
      have hm0 : 0 ≤ mx window 0 := by unfold mx; split <;> omega
      have hm1 : mx window 0 ≤ 9223372036854775807 := by have := Hw.out.2; unfold mx; split <;> omega
      have hmax : ∀ W, Calls Try.prog 43 #[.int .i64 window, .int .i64 0] W fun e w' => e = .returned (.int .i64 (mx window 0)) ∧ w' = W := fun W => max_any window 0 W
      have Hmax := hidP hmax
      have hMt : window.toNat = (mx window 0).toNat := by unfold mx; split <;> omega
      generalize hM : mx window 0 = M at *
      clear hX hWB hown3 hgrow hat hsz eL hmax hM
      by_cases hlt : M < (l.length : Int) + 1
      · obtain ⟨J, hJ⟩ : ∃ J : Int, IntKind.i64.wrap ((l.length : Int) + 1 - M) = J := ⟨_, rfl⟩
        have hJ1 : J = (l.length : Int) + 1 - M := by rw [← hJ, IntKind.wrap_i64]; omega
        have hJ0 : 0 ≤ J := by omega
        have hJn : J ≤ (l.length : Int) + 1 := by omega
        have HJ2 : Hid ((l.length + 1) - window.toNat = J.toNat) := by show _ = _; rw [hJ1]; omega
        have HJ3 := hidP hJ
        clear hJ1 hJ hMt
        go_wp2_with (at_builtin; refine wpList_append_is rfl _ _ _ rfl _ _ _ rfl rfl hr ?_)
        refine wp_region_noPanic ?_
        refine wp_region_held_drew (S := fun w' => w'.cell? ⟨B, 4, none⟩ = some (.slice (some ⟨g, 0, none⟩) (l.length + 1) c')) (by kernel_rfl) ?_ (fun hH => ?_)
        · exact SD.out
        refine' wpAnyH_take (i := 0) (v := _) rfl (by kernel_rfl) (by kernel_rfl) (by kernel_rfl) (fun _ _ _ h => h) (Or.inl ⟨by rfl, ?hy30⟩) (by assumption) ?rest30
        case hy30 => (intro w hSw; (try dsimp only at hSw); go_simp <;> with_reducible rfl)
        try simp only [Act.put, List.setIfInBounds_toArray, List.set_cons_zero, List.set_cons_succ, List.getElem_toArray, List.getElem_cons_succ, List.getElem_cons_zero]
        refine' wpAnyH_take (i := 1) (v := _) rfl (by kernel_rfl) (by kernel_rfl) (by kernel_rfl) (fun _ _ _ h => h) (Or.inl ⟨by rfl, ?hy31⟩) (by assumption) ?rest31
        case hy31 => (intro w hSw; (try dsimp only at hSw); go_simp <;> with_reducible rfl)
        try simp only [Act.put, List.setIfInBounds_toArray, List.set_cons_zero, List.set_cons_succ, List.getElem_toArray, List.getElem_cons_succ, List.getElem_cons_zero]
        refine' wpAnyH_take (i := 2) (v := _) rfl (by kernel_rfl) (by kernel_rfl) (by kernel_rfl) (fun _ _ _ h => h) (Or.inl ⟨by rfl, ?hy32⟩) (by assumption) ?rest32
        case hy32 => (intro w hSw; (try dsimp only at hSw); go_simp <;> with_reducible rfl)
        try simp only [Act.put, List.setIfInBounds_toArray, List.set_cons_zero, List.set_cons_succ, List.getElem_toArray, List.getElem_cons_succ, List.getElem_cons_zero]
        refine' wpAnyH_take (i := 3) (v := _) rfl (by kernel_rfl) (by kernel_rfl) (by kernel_rfl) (fun _ _ _ h => h) (Or.inl ⟨by rfl, ?hy33⟩) (by assumption) ?rest33
        case hy33 => (intro w hSw; (try dsimp only at hSw); go_simp <;> with_reducible rfl)
        try simp only [Act.put, List.setIfInBounds_toArray, List.set_cons_zero, List.set_cons_succ, List.getElem_toArray, List.getElem_cons_succ, List.getElem_cons_zero]
        refine wpAnyH_ready (rs := [4]) (by kernel_rfl) (by simp) (AllReadyH.cons rfl (fun K hK => ?_) AllReadyH.nil)
        simp only [List.getElem_toArray, List.getElem_cons_succ, List.getElem_cons_zero]
        go_simp
        (go_at_call 43; refine (Hmax.out _).mono ?_; rintro e w4 ⟨rfl, rfl⟩)
        refine hK.out _ _ ?_ (fun hH => ?_)
        · exact SD.out
        clear hK K
        try simp only [Act.put, List.setIfInBounds_toArray, List.set_cons_zero, List.set_cons_succ, List.getElem_toArray, List.getElem_cons_succ, List.getElem_cons_zero]
        refine' wpAnyH_take (i := 5) (v := _) rfl (by kernel_rfl) (by kernel_rfl) (by kernel_rfl) (fun _ _ _ h => h) (Or.inl ⟨by rfl, ?hy34⟩) (by assumption) ?rest34
        case hy34 => (intro w hSw; (try dsimp only at hSw); go_simp <;> with_reducible rfl)
        try simp only [Act.put, List.setIfInBounds_toArray, List.set_cons_zero, List.set_cons_succ, List.getElem_toArray, List.getElem_cons_succ, List.getElem_cons_zero]
        refine wpAnyH_done (by kernel_rfl) ?_ _
        refine NoPanic.normal ?_
        clear SD i0 i1 i2 i3 i4 x4 Y1 Y2 B3
        generalize (w3.setCell ⟨B, 4, none⟩ (.slice (some ⟨g, 0, none⟩) (l.length + 1) c')).drew = W5 at *
        obtain ⟨i0, i1, i2, i3, i4⟩ := Z2.row5
        have x4 := Z2.thaw 4
        have FD := fresh_drop (α := Mk) (j := J.toNat) (L := l ++ [⟨seq, off⟩]) (by simp) Z0.out (by omega)
        have hat6 := FD.at
        change At W5 (if c' = J.toNat then some ⟨g, 0, none⟩ else some ⟨g, J.toNat * 2, none⟩) _ at hat6
        generalize hDD : (l ++ [⟨seq, off⟩] : List Mk).drop J.toNat = D at *
        have hDl : D.length = l.length + 1 - J.toNat := by rw [← hDD]; simp
        have hWB : Below w.heap.size w (W5.alloc (.cells #[] 61)).drew := (alloc0 B4.out _).drew
        have hb5 : w.heap.size + 1 < W5.heap.size := Z1.lt
        obtain ⟨v6, w6, hr6, hown6, hgrow6, hat7⟩ := app_mk (w.heap.size + 1 + 1) (.slice (some ⟨W5.heap.size, 0, none⟩) 0 0) [] D (if c' = J.toNat then some ⟨g, 0, none⟩ else some ⟨g, J.toNat * 2, none⟩) (c' - J.toNat) (W5.alloc (.cells #[] 61)).drew (by show _ ≤ (W5.alloc (.cells #[] 61)).heap.size; simp; omega)
          ⟨rfl, .inr ⟨W5.heap.size, 0, #[], rfl, by omega, heap_new W5 _, Nat.le_refl _, by simp [maxLen], rfl, rfl⟩⟩ (hat6.below (Below.drew (alloc0 (Below.refl _ _) _))) (by simp; omega)
        simp only [List.length_nil, Nat.zero_add, List.nil_append] at hown6
        have qB := Z2.lt
        have V1 := ((Z1.alloc (.cells #[] 61)).drew).kept hgrow6 (by intro h; have : w.heap.size + 1 = W5.heap.size := Option.some.inj h; omega)
        have V2 := ((Z2.alloc (.cells #[] 61)).drew).kept hgrow6 (by intro h; have : B = W5.heap.size := Option.some.inj h; omega)
        have B6 := hidP (hWB.grown hgrow6 hWB.size (fun k e => by have : W5.heap.size = k := Option.some.inj e; omega))
        obtain ⟨a6, c6, rfl, _⟩ := owns_form hown6
        have hsz6 : (W5.alloc (.cells #[] 61)).drew.heap.size = W5.heap.size + 1 := World.size_alloc _ _
        have far6 : ∀ k, k < W5.heap.size → some k ≠ (Value.slice a6 D.length c6).ownBlock := fun k hk => by
          rcases hat7 with e | e
          · rw [e]; intro h; have : k = W5.heap.size := Option.some.inj h; omega
          · rw [e]; intro h; have := Option.some.inj h; omega
        have FB := hidP (far6 B qB)
        have F1 := hidP (far6 (w.heap.size + 1) hb5)
        rw [hDl] at hr6
        have HD9 := hidP hDD
        have HOWN6 := hidP hown6
        have HDL := hidP hDl
        have hSA0 := (Z2.alloc (.cells #[] 61)).drew.row5.2.2.2.2
        have hS60 := V2.row5.2.2.2.2
        clear hgrow6 hat7 hown6 far6 hWB hat6 FD hDD hsz6 hr
        obtain ⟨m0, m1, m2, m3, m4⟩ := V1.row5
        have y0 := V1.thaw 0
        have y1 := V1.thaw 1
        have y2 := V1.thaw 2
        have y3 := V1.thaw 3
        have y4 := V1.thaw 4
        have z4 := V2.thaw 4
        rw [hDl] at FB F1 HOWN6
        clear hDl
        have hJ := HJ3.out
        by_cases hcj : c' = J.toNat
        · rw [if_pos hcj] at hr6
          subst hcj
          rw [Nat.sub_self] at hr6
          have h00 : l.length + 1 - J.toNat = 0 := by omega
          rw [h00] at hr6 FB F1 HOWN6 HDL
          clear h00
          have hH : (fun w' => w'.cell? ⟨B, 4, none⟩ = some (.slice (some ⟨g, 0, none⟩) (l.length + 1) J.toNat)) W5.drew := i4
          have hSA : (fun w' => w'.cell? ⟨B, 4, none⟩ = some (.slice (some ⟨g, 0, none⟩) (l.length + 1) J.toNat)) (W5.alloc (.cells #[] 61)).drew := hSA0
          have hS6 : (fun w' => w'.cell? ⟨B, 4, none⟩ = some (.slice (some ⟨g, 0, none⟩) (l.length + 1) J.toNat)) w6 := hS60
          clear hSA0 hS60
          go_wp2_with fail
          refine wp_region_noPanic ?_
          refine region_upTo 12 (fun w' => w'.cell? ⟨B, 4, none⟩ = some (.slice (some ⟨g, 0, none⟩) (l.length + 1) J.toNat)) (by kernel_rfl) ?_
          refine' upTo_taken (i := 1) (v := _) (by kernel_rfl) rfl (by kernel_rfl) (by decide) (by kernel_rfl) (by kernel_rfl) (fun _ _ _ h => h) (Or.inl ⟨by rfl, ?hy35⟩) (by assumption) ?rest35
          case hy35 => (intro w hSw; (try dsimp only at hSw); go_simp <;> with_reducible rfl)
          try simp only [Act.put, List.setIfInBounds_toArray, List.set_cons_zero, List.set_cons_succ, List.getElem_toArray, List.getElem_cons_succ, List.getElem_cons_zero]
          refine' upTo_taken (i := 2) (v := _) (by kernel_rfl) rfl (by kernel_rfl) (by decide) (by kernel_rfl) (by kernel_rfl) (fun _ _ _ h => h) (Or.inl ⟨by rfl, ?hy36⟩) (by assumption) ?rest36
          case hy36 => (intro w hSw; (try dsimp only at hSw); go_simp <;> with_reducible rfl)
          try simp only [Act.put, List.setIfInBounds_toArray, List.set_cons_zero, List.set_cons_succ, List.getElem_toArray, List.getElem_cons_succ, List.getElem_cons_zero]
          refine' upTo_taken (i := 3) (v := _) (by kernel_rfl) rfl (by kernel_rfl) (by decide) (by kernel_rfl) (by kernel_rfl) (fun _ _ _ h => h) (Or.inl ⟨by rfl, ?hy37⟩) (by assumption) ?rest37
          case hy37 => (intro w hSw; (try dsimp only at hSw); go_simp <;> with_reducible rfl)
          try simp only [Act.put, List.setIfInBounds_toArray, List.set_cons_zero, List.set_cons_succ, List.getElem_toArray, List.getElem_cons_succ, List.getElem_cons_zero]
          refine' upTo_taken (i := 4) (v := _) (by kernel_rfl) rfl (by kernel_rfl) (by decide) (by kernel_rfl) (by kernel_rfl) (fun _ _ _ h => h) (Or.inl ⟨by rfl, ?hy38⟩) (by assumption) ?rest38
          case hy38 => (intro w hSw; (try dsimp only at hSw); go_simp <;> with_reducible rfl)
          try simp only [Act.put, List.setIfInBounds_toArray, List.set_cons_zero, List.set_cons_succ, List.getElem_toArray, List.getElem_cons_succ, List.getElem_cons_zero]
          refine' upTo_taken (i := 5) (v := _) (by kernel_rfl) rfl (by kernel_rfl) (by decide) (by kernel_rfl) (by kernel_rfl) (fun _ _ _ h => h) (Or.inl ⟨by rfl, ?hy39⟩) (by assumption) ?rest39
          case hy39 => (intro w hSw; (try dsimp only at hSw); go_simp <;> with_reducible rfl)
          try simp only [Act.put, List.setIfInBounds_toArray, List.set_cons_zero, List.set_cons_succ, List.getElem_toArray, List.getElem_cons_succ, List.getElem_cons_zero]
          refine' upTo_taken (i := 6) (v := _) (by kernel_rfl) rfl (by kernel_rfl) (by decide) (by kernel_rfl) (by kernel_rfl) (fun _ _ _ h => h) (Or.inl ⟨by rfl, ?hy40⟩) (by assumption) ?rest40
          case hy40 => (intro w hSw; (try dsimp only at hSw); go_simp <;> with_reducible rfl)
          try simp only [Act.put, List.setIfInBounds_toArray, List.set_cons_zero, List.set_cons_succ, List.getElem_toArray, List.getElem_cons_succ, List.getElem_cons_zero]
          refine upTo_next2 (i := 0) (j := 7) (by kernel_rfl) rfl rfl (fun K hK => ?_) (fun K hK => ?_)
          · simp only [List.getElem_toArray, List.getElem_cons_succ, List.getElem_cons_zero]
            go_simp
            refine hK.out _ _ (.inr hSA) ?_
            clear hK K
            try simp only [Act.put, List.setIfInBounds_toArray, List.set_cons_zero, List.set_cons_succ, List.getElem_toArray, List.getElem_cons_succ, List.getElem_cons_zero]
            refine upTo_next (i := 7) (by kernel_rfl) rfl (fun K hK => ?_)
            simp only [List.getElem_toArray, List.getElem_cons_succ, List.getElem_cons_zero]
            go_simp
            go_at_call 43
            refine (Hmax.out _).mono ?_
            rintro e w4 ⟨rfl, rfl⟩
            refine hK.out _ _ (.inr hSA) ?_
            clear hK K
            try simp only [Act.put, List.setIfInBounds_toArray, List.set_cons_zero, List.set_cons_succ, List.getElem_toArray, List.getElem_cons_succ, List.getElem_cons_zero]
            refine' upTo_taken (i := 8) (v := _) (by kernel_rfl) rfl (by kernel_rfl) (by decide) (by kernel_rfl) (by kernel_rfl) (fun _ _ _ h => h) (Or.inl ⟨by rfl, ?hy41⟩) (by assumption) ?rest41
            case hy41 => (intro w hSw; (try dsimp only at hSw); go_simp <;> with_reducible rfl)
            try simp only [Act.put, List.setIfInBounds_toArray, List.set_cons_zero, List.set_cons_succ, List.getElem_toArray, List.getElem_cons_succ, List.getElem_cons_zero]
            refine' upTo_taken (i := 9) (v := _) (by kernel_rfl) rfl (by kernel_rfl) (by decide) (by kernel_rfl) (by kernel_rfl) (fun _ _ _ h => h) (Or.inl ⟨by rfl, ?hy42⟩) (by assumption) ?rest42
            case hy42 => (intro w hSw; (try dsimp only at hSw); go_simp <;> with_reducible rfl)
            try simp only [Act.put, List.setIfInBounds_toArray, List.set_cons_zero, List.set_cons_succ, List.getElem_toArray, List.getElem_cons_succ, List.getElem_cons_zero]
            refine upTo_next (i := 10) (by kernel_rfl) rfl (fun K hK => ?_)
            simp only [List.getElem_toArray, List.getElem_cons_succ, List.getElem_cons_zero]
            rw [if_pos (by rfl)]
            refine wp_append_is _ _ _ (by rfl) _ _ _ (by rfl) (by rfl) hr6 ?_
            refine hK.out _ _ (.inr hS6) ?_
            clear hK K
            try simp only [Act.put, List.setIfInBounds_toArray, List.set_cons_zero, List.set_cons_succ, List.getElem_toArray, List.getElem_cons_succ, List.getElem_cons_zero]
            refine' upTo_taken (i := 11) (v := _) (by kernel_rfl) rfl (by kernel_rfl) (by decide) (by kernel_rfl) (by kernel_rfl) (fun _ _ _ h => h) (Or.inl ⟨by rfl, ?hy43⟩) (by assumption) ?rest43
            case hy43 => (intro w hSw; (try dsimp only at hSw); go_simp <;> with_reducible rfl)
            try simp only [Act.put, List.setIfInBounds_toArray, List.set_cons_zero, List.set_cons_succ, List.getElem_toArray, List.getElem_cons_succ, List.getElem_cons_zero]
            refine upTo_next (i := 12) (by kernel_rfl) rfl (fun K hK => ?_)
            simp only [List.getElem_toArray, List.getElem_cons_succ, List.getElem_cons_zero]
            go_simp
            refine hK.out _ _ (.inl rfl) ?_
            clear hK K
            try simp only [Act.put, List.setIfInBounds_toArray, List.set_cons_zero, List.set_cons_succ, List.getElem_toArray, List.getElem_cons_succ, List.getElem_cons_zero]
            refine upTo_done (by kernel_rfl) ?_ _
            refine NoPanic.normal ?_
            clear hH hSA hS6 hJ
            obtain ⟨o0, o1, o2, o3, o4⟩ := V2.row5
            go_wp2
            have z : Blk _ (w.heap.size + 1) 26 #[.int .i64 row, .int .i64 who, .int .i64 ep, .int .i64 seq, .slice a6 0 c6] := (((((V1.other (B' := B) (by omega) 4 (.slice a6 0 c6)).setAt 0 (.int .i64 row)).setAt 1 (.int .i64 who)).setAt 2 (.int .i64 ep)).setAt 3 (.int .i64 seq)).setAt 4 (.slice a6 0 c6)
            obtain ⟨e0, e1, e2, e3, e4⟩ := z.row5
            exact bodyPost_ret (v := .agg #[.int .i64 row, .int .i64 who, .int .i64 ep, .int .i64 seq, .slice a6 0 c6]) (by simp [results, Try.results13, go_sem, e0, e1, e2, e3, e4]) rfl
              ⟨_, by rw [HE.out, HS.out], by
                rw [HM.out, EL.out, HJ2.out, HD9.out]
                exact owns_n (α := Mk) (l := D) HDL.out.symm (owns_mono (owns_set (owns_set (owns_set (owns_set (owns_set (owns_set HOWN6.out FB.out) F1.out) F1.out) F1.out) F1.out) F1.out) (show w.heap.size ≤ w.heap.size + 1 + 1 by omega)),
              bl_set (bl_set (bl_set (bl_set (bl_set (bl_set B6.out (by omega) _) (by omega) _) (by omega) _) (by omega) _) (by omega) _) (by omega) _⟩
          · simp only [List.getElem_toArray, List.getElem_cons_succ, List.getElem_cons_zero]
            go_simp
            go_at_call 43
            refine (Hmax.out _).mono ?_
            rintro e w4 ⟨rfl, rfl⟩
            refine hK.out _ _ (.inr hH) ?_
            clear hK K
            try simp only [Act.put, List.setIfInBounds_toArray, List.set_cons_zero, List.set_cons_succ, List.getElem_toArray, List.getElem_cons_succ, List.getElem_cons_zero]
            refine' upTo_taken (i := 8) (v := _) (by kernel_rfl) rfl (by kernel_rfl) (by decide) (by kernel_rfl) (by kernel_rfl) (fun _ _ _ h => h) (Or.inl ⟨by rfl, ?hy44⟩) (by assumption) ?rest44
            case hy44 => (intro w hSw; (try dsimp only at hSw); go_simp <;> with_reducible rfl)
            try simp only [Act.put, List.setIfInBounds_toArray, List.set_cons_zero, List.set_cons_succ, List.getElem_toArray, List.getElem_cons_succ, List.getElem_cons_zero]
            refine' upTo_taken (i := 9) (v := _) (by kernel_rfl) rfl (by kernel_rfl) (by decide) (by kernel_rfl) (by kernel_rfl) (fun _ _ _ h => h) (Or.inl ⟨by rfl, ?hy45⟩) (by assumption) ?rest45
            case hy45 => (intro w hSw; (try dsimp only at hSw); go_simp <;> with_reducible rfl)
            try simp only [Act.put, List.setIfInBounds_toArray, List.set_cons_zero, List.set_cons_succ, List.getElem_toArray, List.getElem_cons_succ, List.getElem_cons_zero]
            refine upTo_next (i := 0) (by kernel_rfl) rfl (fun K hK => ?_)
            simp only [List.getElem_toArray, List.getElem_cons_succ, List.getElem_cons_zero]
            go_simp
            refine hK.out _ _ (.inr hSA) ?_
            clear hK K
            try simp only [Act.put, List.setIfInBounds_toArray, List.set_cons_zero, List.set_cons_succ, List.getElem_toArray, List.getElem_cons_succ, List.getElem_cons_zero]
            refine upTo_next (i := 10) (by kernel_rfl) rfl (fun K hK => ?_)
            simp only [List.getElem_toArray, List.getElem_cons_succ, List.getElem_cons_zero]
            rw [if_pos (by rfl)]
            refine wp_append_is _ _ _ (by rfl) _ _ _ (by rfl) (by rfl) hr6 ?_
            refine hK.out _ _ (.inr hS6) ?_
            clear hK K
            try simp only [Act.put, List.setIfInBounds_toArray, List.set_cons_zero, List.set_cons_succ, List.getElem_toArray, List.getElem_cons_succ, List.getElem_cons_zero]
            refine' upTo_taken (i := 11) (v := _) (by kernel_rfl) rfl (by kernel_rfl) (by decide) (by kernel_rfl) (by kernel_rfl) (fun _ _ _ h => h) (Or.inl ⟨by rfl, ?hy46⟩) (by assumption) ?rest46
            case hy46 => (intro w hSw; (try dsimp only at hSw); go_simp <;> with_reducible rfl)
            try simp only [Act.put, List.setIfInBounds_toArray, List.set_cons_zero, List.set_cons_succ, List.getElem_toArray, List.getElem_cons_succ, List.getElem_cons_zero]
            refine upTo_next (i := 12) (by kernel_rfl) rfl (fun K hK => ?_)
            simp only [List.getElem_toArray, List.getElem_cons_succ, List.getElem_cons_zero]
            go_simp
            refine hK.out _ _ (.inl rfl) ?_
            clear hK K
            try simp only [Act.put, List.setIfInBounds_toArray, List.set_cons_zero, List.set_cons_succ, List.getElem_toArray, List.getElem_cons_succ, List.getElem_cons_zero]
            refine upTo_done (by kernel_rfl) ?_ _
            refine NoPanic.normal ?_
            clear hH hSA hS6 hJ
            obtain ⟨o0, o1, o2, o3, o4⟩ := V2.row5
            go_wp2
            have z : Blk _ (w.heap.size + 1) 26 #[.int .i64 row, .int .i64 who, .int .i64 ep, .int .i64 seq, .slice a6 0 c6] := (((((V1.other (B' := B) (by omega) 4 (.slice a6 0 c6)).setAt 0 (.int .i64 row)).setAt 1 (.int .i64 who)).setAt 2 (.int .i64 ep)).setAt 3 (.int .i64 seq)).setAt 4 (.slice a6 0 c6)
            obtain ⟨e0, e1, e2, e3, e4⟩ := z.row5
            exact bodyPost_ret (v := .agg #[.int .i64 row, .int .i64 who, .int .i64 ep, .int .i64 seq, .slice a6 0 c6]) (by simp [results, Try.results13, go_sem, e0, e1, e2, e3, e4]) rfl
              ⟨_, by rw [HE.out, HS.out], by
                rw [HM.out, EL.out, HJ2.out, HD9.out]
                exact owns_n (α := Mk) (l := D) HDL.out.symm (owns_mono (owns_set (owns_set (owns_set (owns_set (owns_set (owns_set HOWN6.out FB.out) F1.out) F1.out) F1.out) F1.out) F1.out) (show w.heap.size ≤ w.heap.size + 1 + 1 by omega)),
              bl_set (bl_set (bl_set (bl_set (bl_set (bl_set B6.out (by omega) _) (by omega) _) (by omega) _) (by omega) _) (by omega) _) (by omega) _⟩

        · rw [if_neg hcj] at hr6
          have hH : (fun w' => w'.cell? ⟨B, 4, none⟩ = some (.slice (some ⟨g, 0, none⟩) (l.length + 1) c')) W5.drew := i4
          have hSA : (fun w' => w'.cell? ⟨B, 4, none⟩ = some (.slice (some ⟨g, 0, none⟩) (l.length + 1) c')) (W5.alloc (.cells #[] 61)).drew := hSA0
          have hS6 : (fun w' => w'.cell? ⟨B, 4, none⟩ = some (.slice (some ⟨g, 0, none⟩) (l.length + 1) c')) w6 := hS60
          clear hSA0 hS60
          go_wp2_with fail
          refine wp_region_noPanic ?_
          refine region_upTo 12 (fun w' => w'.cell? ⟨B, 4, none⟩ = some (.slice (some ⟨g, 0, none⟩) (l.length + 1) c')) (by kernel_rfl) ?_
          refine' upTo_taken (i := 1) (v := _) (by kernel_rfl) rfl (by kernel_rfl) (by decide) (by kernel_rfl) (by kernel_rfl) (fun _ _ _ h => h) (Or.inl ⟨by rfl, ?hy47⟩) (by assumption) ?rest47
          case hy47 => (intro w hSw; (try dsimp only at hSw); go_simp <;> with_reducible rfl)
          try simp only [Act.put, List.setIfInBounds_toArray, List.set_cons_zero, List.set_cons_succ, List.getElem_toArray, List.getElem_cons_succ, List.getElem_cons_zero]
          refine' upTo_taken (i := 2) (v := _) (by kernel_rfl) rfl (by kernel_rfl) (by decide) (by kernel_rfl) (by kernel_rfl) (fun _ _ _ h => h) (Or.inl ⟨by rfl, ?hy48⟩) (by assumption) ?rest48
          case hy48 => (intro w hSw; (try dsimp only at hSw); go_simp <;> with_reducible rfl)
          try simp only [Act.put, List.setIfInBounds_toArray, List.set_cons_zero, List.set_cons_succ, List.getElem_toArray, List.getElem_cons_succ, List.getElem_cons_zero]
          refine' upTo_taken (i := 3) (v := _) (by kernel_rfl) rfl (by kernel_rfl) (by decide) (by kernel_rfl) (by kernel_rfl) (fun _ _ _ h => h) (Or.inl ⟨by rfl, ?hy49⟩) (by assumption) ?rest49
          case hy49 => (intro w hSw; (try dsimp only at hSw); go_simp <;> with_reducible rfl)
          try simp only [Act.put, List.setIfInBounds_toArray, List.set_cons_zero, List.set_cons_succ, List.getElem_toArray, List.getElem_cons_succ, List.getElem_cons_zero]
          refine' upTo_taken (i := 4) (v := _) (by kernel_rfl) rfl (by kernel_rfl) (by decide) (by kernel_rfl) (by kernel_rfl) (fun _ _ _ h => h) (Or.inl ⟨by rfl, ?hy50⟩) (by assumption) ?rest50
          case hy50 => (intro w hSw; (try dsimp only at hSw); go_simp <;> with_reducible rfl)
          try simp only [Act.put, List.setIfInBounds_toArray, List.set_cons_zero, List.set_cons_succ, List.getElem_toArray, List.getElem_cons_succ, List.getElem_cons_zero]
          refine' upTo_taken (i := 5) (v := _) (by kernel_rfl) rfl (by kernel_rfl) (by decide) (by kernel_rfl) (by kernel_rfl) (fun _ _ _ h => h) (Or.inl ⟨by rfl, ?hy51⟩) (by assumption) ?rest51
          case hy51 => (intro w hSw; (try dsimp only at hSw); go_simp <;> with_reducible rfl)
          try simp only [Act.put, List.setIfInBounds_toArray, List.set_cons_zero, List.set_cons_succ, List.getElem_toArray, List.getElem_cons_succ, List.getElem_cons_zero]
          refine' upTo_taken (i := 6) (v := _) (by kernel_rfl) rfl (by kernel_rfl) (by decide) (by kernel_rfl) (by kernel_rfl) (fun _ _ _ h => h) (Or.inl ⟨by rfl, ?hy52⟩) (by assumption) ?rest52
          case hy52 => (intro w hSw; (try dsimp only at hSw); go_simp <;> with_reducible rfl)
          try simp only [Act.put, List.setIfInBounds_toArray, List.set_cons_zero, List.set_cons_succ, List.getElem_toArray, List.getElem_cons_succ, List.getElem_cons_zero]
          refine upTo_next2 (i := 0) (j := 7) (by kernel_rfl) rfl rfl (fun K hK => ?_) (fun K hK => ?_)
          · simp only [List.getElem_toArray, List.getElem_cons_succ, List.getElem_cons_zero]
            go_simp
            refine hK.out _ _ (.inr hSA) ?_
            clear hK K
            try simp only [Act.put, List.setIfInBounds_toArray, List.set_cons_zero, List.set_cons_succ, List.getElem_toArray, List.getElem_cons_succ, List.getElem_cons_zero]
            refine upTo_next (i := 7) (by kernel_rfl) rfl (fun K hK => ?_)
            simp only [List.getElem_toArray, List.getElem_cons_succ, List.getElem_cons_zero]
            go_simp
            go_at_call 43
            refine (Hmax.out _).mono ?_
            rintro e w4 ⟨rfl, rfl⟩
            refine hK.out _ _ (.inr hSA) ?_
            clear hK K
            try simp only [Act.put, List.setIfInBounds_toArray, List.set_cons_zero, List.set_cons_succ, List.getElem_toArray, List.getElem_cons_succ, List.getElem_cons_zero]
            refine' upTo_taken (i := 8) (v := _) (by kernel_rfl) rfl (by kernel_rfl) (by decide) (by kernel_rfl) (by kernel_rfl) (fun _ _ _ h => h) (Or.inl ⟨by rfl, ?hy53⟩) (by assumption) ?rest53
            case hy53 => (intro w hSw; (try dsimp only at hSw); go_simp <;> with_reducible rfl)
            try simp only [Act.put, List.setIfInBounds_toArray, List.set_cons_zero, List.set_cons_succ, List.getElem_toArray, List.getElem_cons_succ, List.getElem_cons_zero]
            refine' upTo_taken (i := 9) (v := _) (by kernel_rfl) rfl (by kernel_rfl) (by decide) (by kernel_rfl) (by kernel_rfl) (fun _ _ _ h => h) (Or.inl ⟨by rfl, ?hy54⟩) (by assumption) ?rest54
            case hy54 => (intro w hSw; (try dsimp only at hSw); go_simp <;> with_reducible rfl)
            try simp only [Act.put, List.setIfInBounds_toArray, List.set_cons_zero, List.set_cons_succ, List.getElem_toArray, List.getElem_cons_succ, List.getElem_cons_zero]
            refine upTo_next (i := 10) (by kernel_rfl) rfl (fun K hK => ?_)
            simp only [List.getElem_toArray, List.getElem_cons_succ, List.getElem_cons_zero]
            rw [if_pos (by rfl)]
            refine wp_append_is _ _ _ (by rfl) _ _ _ (by rfl) (by rfl) hr6 ?_
            refine hK.out _ _ (.inr hS6) ?_
            clear hK K
            try simp only [Act.put, List.setIfInBounds_toArray, List.set_cons_zero, List.set_cons_succ, List.getElem_toArray, List.getElem_cons_succ, List.getElem_cons_zero]
            refine' upTo_taken (i := 11) (v := _) (by kernel_rfl) rfl (by kernel_rfl) (by decide) (by kernel_rfl) (by kernel_rfl) (fun _ _ _ h => h) (Or.inl ⟨by rfl, ?hy55⟩) (by assumption) ?rest55
            case hy55 => (intro w hSw; (try dsimp only at hSw); go_simp <;> with_reducible rfl)
            try simp only [Act.put, List.setIfInBounds_toArray, List.set_cons_zero, List.set_cons_succ, List.getElem_toArray, List.getElem_cons_succ, List.getElem_cons_zero]
            refine upTo_next (i := 12) (by kernel_rfl) rfl (fun K hK => ?_)
            simp only [List.getElem_toArray, List.getElem_cons_succ, List.getElem_cons_zero]
            go_simp
            refine hK.out _ _ (.inl rfl) ?_
            clear hK K
            try simp only [Act.put, List.setIfInBounds_toArray, List.set_cons_zero, List.set_cons_succ, List.getElem_toArray, List.getElem_cons_succ, List.getElem_cons_zero]
            refine upTo_done (by kernel_rfl) ?_ _
            refine NoPanic.normal ?_
            clear hH hSA hS6 hJ
            obtain ⟨o0, o1, o2, o3, o4⟩ := V2.row5
            go_wp2
            have z : Blk _ (w.heap.size + 1) 26 #[.int .i64 row, .int .i64 who, .int .i64 ep, .int .i64 seq, .slice a6 (l.length + 1 - J.toNat) c6] := (((((V1.other (B' := B) (by omega) 4 (.slice a6 (l.length + 1 - J.toNat) c6)).setAt 0 (.int .i64 row)).setAt 1 (.int .i64 who)).setAt 2 (.int .i64 ep)).setAt 3 (.int .i64 seq)).setAt 4 (.slice a6 (l.length + 1 - J.toNat) c6)
            obtain ⟨e0, e1, e2, e3, e4⟩ := z.row5
            exact bodyPost_ret (v := .agg #[.int .i64 row, .int .i64 who, .int .i64 ep, .int .i64 seq, .slice a6 (l.length + 1 - J.toNat) c6]) (by simp [results, Try.results13, go_sem, e0, e1, e2, e3, e4]) rfl
              ⟨_, by rw [HE.out, HS.out], by
                rw [HM.out, EL.out, HJ2.out, HD9.out]
                exact owns_n (α := Mk) (l := D) HDL.out.symm (owns_mono (owns_set (owns_set (owns_set (owns_set (owns_set (owns_set HOWN6.out FB.out) F1.out) F1.out) F1.out) F1.out) F1.out) (show w.heap.size ≤ w.heap.size + 1 + 1 by omega)),
              bl_set (bl_set (bl_set (bl_set (bl_set (bl_set B6.out (by omega) _) (by omega) _) (by omega) _) (by omega) _) (by omega) _) (by omega) _⟩
          · simp only [List.getElem_toArray, List.getElem_cons_succ, List.getElem_cons_zero]
            go_simp
            go_at_call 43
            refine (Hmax.out _).mono ?_
            rintro e w4 ⟨rfl, rfl⟩
            refine hK.out _ _ (.inr hH) ?_
            clear hK K
            try simp only [Act.put, List.setIfInBounds_toArray, List.set_cons_zero, List.set_cons_succ, List.getElem_toArray, List.getElem_cons_succ, List.getElem_cons_zero]
            refine' upTo_taken (i := 8) (v := _) (by kernel_rfl) rfl (by kernel_rfl) (by decide) (by kernel_rfl) (by kernel_rfl) (fun _ _ _ h => h) (Or.inl ⟨by rfl, ?hy56⟩) (by assumption) ?rest56
            case hy56 => (intro w hSw; (try dsimp only at hSw); go_simp <;> with_reducible rfl)
            try simp only [Act.put, List.setIfInBounds_toArray, List.set_cons_zero, List.set_cons_succ, List.getElem_toArray, List.getElem_cons_succ, List.getElem_cons_zero]
            refine' upTo_taken (i := 9) (v := _) (by kernel_rfl) rfl (by kernel_rfl) (by decide) (by kernel_rfl) (by kernel_rfl) (fun _ _ _ h => h) (Or.inl ⟨by rfl, ?hy57⟩) (by assumption) ?rest57
            case hy57 => (intro w hSw; (try dsimp only at hSw); go_simp <;> with_reducible rfl)
            try simp only [Act.put, List.setIfInBounds_toArray, List.set_cons_zero, List.set_cons_succ, List.getElem_toArray, List.getElem_cons_succ, List.getElem_cons_zero]
            refine upTo_next (i := 0) (by kernel_rfl) rfl (fun K hK => ?_)
            simp only [List.getElem_toArray, List.getElem_cons_succ, List.getElem_cons_zero]
            go_simp
            refine hK.out _ _ (.inr hSA) ?_
            clear hK K
            try simp only [Act.put, List.setIfInBounds_toArray, List.set_cons_zero, List.set_cons_succ, List.getElem_toArray, List.getElem_cons_succ, List.getElem_cons_zero]
            refine upTo_next (i := 10) (by kernel_rfl) rfl (fun K hK => ?_)
            simp only [List.getElem_toArray, List.getElem_cons_succ, List.getElem_cons_zero]
            rw [if_pos (by rfl)]
            refine wp_append_is _ _ _ (by rfl) _ _ _ (by rfl) (by rfl) hr6 ?_
            refine hK.out _ _ (.inr hS6) ?_
            clear hK K
            try simp only [Act.put, List.setIfInBounds_toArray, List.set_cons_zero, List.set_cons_succ, List.getElem_toArray, List.getElem_cons_succ, List.getElem_cons_zero]
            refine' upTo_taken (i := 11) (v := _) (by kernel_rfl) rfl (by kernel_rfl) (by decide) (by kernel_rfl) (by kernel_rfl) (fun _ _ _ h => h) (Or.inl ⟨by rfl, ?hy58⟩) (by assumption) ?rest58
            case hy58 => (intro w hSw; (try dsimp only at hSw); go_simp <;> with_reducible rfl)
            try simp only [Act.put, List.setIfInBounds_toArray, List.set_cons_zero, List.set_cons_succ, List.getElem_toArray, List.getElem_cons_succ, List.getElem_cons_zero]
            refine upTo_next (i := 12) (by kernel_rfl) rfl (fun K hK => ?_)
            simp only [List.getElem_toArray, List.getElem_cons_succ, List.getElem_cons_zero]
            go_simp
            refine hK.out _ _ (.inl rfl) ?_
            clear hK K
            try simp only [Act.put, List.setIfInBounds_toArray, List.set_cons_zero, List.set_cons_succ, List.getElem_toArray, List.getElem_cons_succ, List.getElem_cons_zero]
            refine upTo_done (by kernel_rfl) ?_ _
            refine NoPanic.normal ?_
            clear hH hSA hS6 hJ
            obtain ⟨o0, o1, o2, o3, o4⟩ := V2.row5
            go_wp2
            have z : Blk _ (w.heap.size + 1) 26 #[.int .i64 row, .int .i64 who, .int .i64 ep, .int .i64 seq, .slice a6 (l.length + 1 - J.toNat) c6] := (((((V1.other (B' := B) (by omega) 4 (.slice a6 (l.length + 1 - J.toNat) c6)).setAt 0 (.int .i64 row)).setAt 1 (.int .i64 who)).setAt 2 (.int .i64 ep)).setAt 3 (.int .i64 seq)).setAt 4 (.slice a6 (l.length + 1 - J.toNat) c6)
            obtain ⟨e0, e1, e2, e3, e4⟩ := z.row5
            exact bodyPost_ret (v := .agg #[.int .i64 row, .int .i64 who, .int .i64 ep, .int .i64 seq, .slice a6 (l.length + 1 - J.toNat) c6]) (by simp [results, Try.results13, go_sem, e0, e1, e2, e3, e4]) rfl
              ⟨_, by rw [HE.out, HS.out], by
                rw [HM.out, EL.out, HJ2.out, HD9.out]
                exact owns_n (α := Mk) (l := D) HDL.out.symm (owns_mono (owns_set (owns_set (owns_set (owns_set (owns_set (owns_set HOWN6.out FB.out) F1.out) F1.out) F1.out) F1.out) F1.out) (show w.heap.size ≤ w.heap.size + 1 + 1 by omega)),
              bl_set (bl_set (bl_set (bl_set (bl_set (bl_set B6.out (by omega) _) (by omega) _) (by omega) _) (by omega) _) (by omega) _) (by omega) _⟩

      · have hj : (l.length + 1) - window.toNat = 0 := by omega
        go_wp2_with (at_builtin; refine wpList_append_is rfl _ _ _ rfl _ _ _ rfl rfl hr ?_)
        refine wp_region_noPanic ?_
        refine wp_region_held_drew (S := fun w' => w'.cell? ⟨B, 4, none⟩ = some (.slice (some ⟨g, 0, none⟩) (l.length + 1) c')) (by kernel_rfl) ?_ (fun hH => ?_)
        · exact SD.out
        refine' wpAnyH_take (i := 0) (v := _) rfl (by kernel_rfl) (by kernel_rfl) (by kernel_rfl) (fun _ _ _ h => h) (Or.inl ⟨by rfl, ?hyb30⟩) (by assumption) ?restb30
        case hyb30 => (intro w hSw; (try dsimp only at hSw); go_simp <;> with_reducible rfl)
        try simp only [Act.put, List.setIfInBounds_toArray, List.set_cons_zero, List.set_cons_succ, List.getElem_toArray, List.getElem_cons_succ, List.getElem_cons_zero]
        refine' wpAnyH_take (i := 1) (v := _) rfl (by kernel_rfl) (by kernel_rfl) (by kernel_rfl) (fun _ _ _ h => h) (Or.inl ⟨by rfl, ?hyb31⟩) (by assumption) ?restb31
        case hyb31 => (intro w hSw; (try dsimp only at hSw); go_simp <;> with_reducible rfl)
        try simp only [Act.put, List.setIfInBounds_toArray, List.set_cons_zero, List.set_cons_succ, List.getElem_toArray, List.getElem_cons_succ, List.getElem_cons_zero]
        refine' wpAnyH_take (i := 2) (v := _) rfl (by kernel_rfl) (by kernel_rfl) (by kernel_rfl) (fun _ _ _ h => h) (Or.inl ⟨by rfl, ?hyb32⟩) (by assumption) ?restb32
        case hyb32 => (intro w hSw; (try dsimp only at hSw); go_simp <;> with_reducible rfl)
        try simp only [Act.put, List.setIfInBounds_toArray, List.set_cons_zero, List.set_cons_succ, List.getElem_toArray, List.getElem_cons_succ, List.getElem_cons_zero]
        refine' wpAnyH_take (i := 3) (v := _) rfl (by kernel_rfl) (by kernel_rfl) (by kernel_rfl) (fun _ _ _ h => h) (Or.inl ⟨by rfl, ?hyb33⟩) (by assumption) ?restb33
        case hyb33 => (intro w hSw; (try dsimp only at hSw); go_simp <;> with_reducible rfl)
        try simp only [Act.put, List.setIfInBounds_toArray, List.set_cons_zero, List.set_cons_succ, List.getElem_toArray, List.getElem_cons_succ, List.getElem_cons_zero]
        refine wpAnyH_ready (rs := [4]) (by kernel_rfl) (by simp) (AllReadyH.cons rfl (fun K hK => ?_) AllReadyH.nil)
        simp only [List.getElem_toArray, List.getElem_cons_succ, List.getElem_cons_zero]
        go_simp
        (go_at_call 43; refine (Hmax.out _).mono ?_; rintro e w4 ⟨rfl, rfl⟩)
        refine hK.out _ _ ?_ (fun hH => ?_)
        · exact SD.out
        clear hK K
        try simp only [Act.put, List.setIfInBounds_toArray, List.set_cons_zero, List.set_cons_succ, List.getElem_toArray, List.getElem_cons_succ, List.getElem_cons_zero]
        refine' wpAnyH_take (i := 5) (v := _) rfl (by kernel_rfl) (by kernel_rfl) (by kernel_rfl) (fun _ _ _ h => h) (Or.inl ⟨by rfl, ?hyb34⟩) (by assumption) ?restb34
        case hyb34 => (intro w hSw; (try dsimp only at hSw); go_simp <;> with_reducible rfl)
        try simp only [Act.put, List.setIfInBounds_toArray, List.set_cons_zero, List.set_cons_succ, List.getElem_toArray, List.getElem_cons_succ, List.getElem_cons_zero]
        refine wpAnyH_done (by kernel_rfl) ?_ _
        refine NoPanic.normal ?_
        clear SD i0 i1 i2 i3 i4 x4 Y1 Y2 B3
        generalize (w3.setCell ⟨B, 4, none⟩ (.slice (some ⟨g, 0, none⟩) (l.length + 1) c')).drew = W5 at *
        obtain ⟨i0, i1, i2, i3, i4⟩ := Z2.row5
        obtain ⟨m0, m1, m2, m3, m4⟩ := Z1.row5
        have y0 := Z1.thaw 0
        have y1 := Z1.thaw 1
        have y2 := Z1.thaw 2
        have y3 := Z1.thaw 3
        have y4 := Z1.thaw 4
        go_wp2
        have z : Blk _ (w.heap.size + 1) 26 #[.int .i64 row, .int .i64 who, .int .i64 ep, .int .i64 seq, .slice (some ⟨g, 0, none⟩) (l.length + 1) c'] := ((((Z1.setAt 0 (.int .i64 row)).setAt 1 (.int .i64 who)).setAt 2 (.int .i64 ep)).setAt 3 (.int .i64 seq)).setAt 4 (.slice (some ⟨g, 0, none⟩) (l.length + 1) c')
        obtain ⟨e0, e1, e2, e3, e4⟩ := z.row5
        have far9 : some (w.heap.size + 1) ≠ (Value.slice (some ⟨g, 0, none⟩) (l.length + 1) c').ownBlock := owns_far Z0.out (by omega)
        exact bodyPost_ret (v := .agg #[.int .i64 row, .int .i64 who, .int .i64 ep, .int .i64 seq, .slice (some ⟨g, 0, none⟩) (l.length + 1) c']) (by simp [results, Try.results13, go_sem, e0, e1, e2, e3, e4]) rfl
          ⟨_, by rw [HE.out, HS.out], by
            rw [HM.out, EL.out, hj]
            exact owns_n (α := Mk) (l := l ++ [⟨seq, off⟩]) (by simp) (owns_mono (owns_set (owns_set (owns_set (owns_set (owns_set Z0.out far9) far9) far9) far9) far9) (show w.heap.size ≤ w.heap.size + 1 + 1 by omega)),
          bl_set (bl_set (bl_set (bl_set (bl_set B4.out (by omega) _) (by omega) _) (by omega) _) (by omega) _) (by omega) _⟩
  · have HE : Hid (putE epoch last l ep seq = epoch) := by show _ = _; simp [putE, putD, hd]
    have HS : Hid (putS epoch last l ep seq = last) := by show _ = _; simp [putS, putD, hd]
    have HM : Hid (putM window epoch last l ep seq off = l) := by show _ = _; simp [putM, putD, hd]
    generalize hC : askC epoch last l ep seq = C at *
    generalize hO : askO epoch last l ep seq = O at *
    clear hC hO
    go_wp2
    have z : Blk _ (w.heap.size + 1) 26 #[.int .i64 row, .int .i64 who, .int .i64 epoch, .int .i64 last, .slice a l.length c] := ((((r1.setAt 0 (.int .i64 row)).setAt 1 (.int .i64 who)).setAt 2 (.int .i64 epoch)).setAt 3 (.int .i64 last)).setAt 4 (.slice a l.length c)
    obtain ⟨e0, e1, e2, e3, e4⟩ := z.row5
    exact bodyPost_ret (v := .agg #[.int .i64 row, .int .i64 who, .int .i64 epoch, .int .i64 last, .slice a l.length c]) (by simp [results, Try.results13, go_sem, e0, e1, e2, e3, e4]) rfl
      ⟨_, by rw [HE.out, HS.out], by rw [HM.out]; exact id (owns_mono (owns_set (owns_set (owns_set (owns_set (owns_set Hown2.out far1) far1) far1) far1) far1) (by omega)), bl_set (bl_set (bl_set (bl_set (bl_set HB2.out (by omega) _) (by omega) _) (by omega) _) (by omega) _) (by omega) _⟩

theorem specPut_any (row who epoch last window ep seq off : Int) (hw : I64 window) (A : Option Addr) (cap : Nat) (l : List Mk) (hl : l.length ≤ 1048576) (w : World) (hA : At w A l) :
    Calls Try.prog 13 #[.agg #[.int .i64 row, .int .i64 who, .int .i64 epoch, .int .i64 last, .slice A l.length cap], .int .i64 window, .int .i64 ep, .int .i64 seq, .int .i64 off] w fun e w' => ∃ v, e = .returned (.agg #[.int .i64 row, .int .i64 who, .int .i64 (putE epoch last l ep seq), .int .i64 (putS epoch last l ep seq), v]) ∧ Fresh w.heap.size w' v (putM window epoch last l ep seq off) ∧ Below w.heap.size w w' :=
  (specPut_own row who epoch last window ep seq off hw A cap l hl w hA).mono fun e w' ⟨v, h1, h2, h3⟩ => ⟨v, h1, fresh_owns h2, h3⟩
end Go.Proofs.Ytpbbpjckkccjaaa.Gen
