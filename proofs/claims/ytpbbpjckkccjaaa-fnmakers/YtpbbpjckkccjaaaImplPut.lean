/-
  MakerPut of the program at this seat.
-/
import Derived.Test.YtpbbpjckkccjaaaPutPure
import Derived.Test.YtpbbpjckkccjaaaLastOp
namespace Go.Proofs.Ytpbbpjckkccjaaa.Gen
open Go.ChangeShapes Go.WideShapes Go.ChangeAt Go.RowKit Go.Joins Go.Deep Base
set_option linter.unusedVariables false
set_option linter.unusedSimpArgs false

set_option maxRecDepth 100000 in
set_option maxHeartbeats 4000000 in
theorem implPut_any (row who epoch last window ep seq off : Int) (hw : I64 window) (A : Option Addr) (cap : Nat) (l : List Mk) (hl : l.length ≤ 1048576) (w : World) (hA : At w A l) :
    Calls Try.prog 7 #[.agg #[.int .i64 row, .int .i64 who, .int .i64 epoch, .int .i64 last, .slice A l.length cap], .int .i64 window, .int .i64 ep, .int .i64 seq, .int .i64 off] w fun e w' => ∃ v, e = .returned (.agg #[.int .i64 row, .int .i64 who, .int .i64 (putE epoch last l ep seq), .int .i64 (putS epoch last l ep seq), v]) ∧ Fresh w.heap.size w' v (putM window epoch last l ep seq off) ∧ Below w.heap.size w w' := by
  have HA : Hid (At w A l) := hA
  have Hw := hidP hw
  clear hA hw
  go_enter Try.func7, Try.ntmps7
  go_wp2_with fail
  refine (implCopied_any row who epoch last A cap l hl _ (HA.out.below (alloc0 (alloc0 (Below.refl _ w) _) _))).mono ?_
  rintro e w1 ⟨v, rfl, hown, g1⟩
  have B1 : Below w.heap.size w w1 := via0 g1 (alloc0 (alloc0 (Below.refl _ w) _) _)
  have p0 := ((Blk.new w 26 #[.int .i64 row, .int .i64 who, .int .i64 epoch, .int .i64 last, .slice A l.length cap]).alloc (.cells #[.int .i64 0, .int .i64 0, .int .i64 0, .int .i64 0, .slice none 0 0] 26)).below g1 (by simp; omega)
  have p1 := (Blk.new (w.alloc (.cells #[.int .i64 row, .int .i64 who, .int .i64 epoch, .int .i64 last, .slice A l.length cap] 26)) 26 #[.int .i64 0, .int .i64 0, .int .i64 0, .int .i64 0, .slice none 0 0]).below g1 (by simp)
  rw [World.size_alloc] at p1
  obtain ⟨a, c, rfl, hc⟩ := owns_form hown
  simp only [World.size_alloc] at hown
  have Hown := hidP hown
  clear hown hc
  obtain ⟨u0, u1, u2, u3, u4⟩ := p0.row5
  have q0 := p0.lt
  have q1 := p1.lt
  go_wp2_with fail
  refine (implAsk_any row who epoch last ep seq A cap l hl _ (HA.out.below (alloc0 B1 _))).mono ?_
  rintro e w2 ⟨rfl, g2⟩
  have B2 : Below w.heap.size w w2 := via0 g2 (alloc0 B1 _)
  have r0 := (p0.alloc (.cells #[.int .i64 row, .int .i64 who, .int .i64 epoch, .int .i64 last, .slice a l.length c] 26)).below g2 (p0.alloc _).lt
  have r1 := (p1.alloc (.cells #[.int .i64 row, .int .i64 who, .int .i64 epoch, .int .i64 last, .slice a l.length c] 26)).below g2 (p1.alloc _).lt
  have r2 := (Blk.new w1 26 #[.int .i64 row, .int .i64 who, .int .i64 epoch, .int .i64 last, .slice a l.length c]).below g2 (by simp)
  have far2 : some w1.heap.size ≠ (Value.slice a l.length c).ownBlock := fun h => by have := owns_lt Hown.out h.symm; omega
  have Hown2 := hidP (owns_below (owns_alloc Hown.out (.cells #[.int .i64 row, .int .i64 who, .int .i64 epoch, .int .i64 last, .slice a l.length c] 26)) g2)
  have far1 : some (w.heap.size + 1) ≠ (Value.slice a l.length c).ownBlock := owns_far Hown2.out (by omega)
  have HB2 := hidP B2
  clear u0 u1 u2 u3 u4 p0 p1 Hown g1 g2 B1 B2
  generalize hBB : w1.heap.size = B at *
  clear hBB
  have q2 := r2.lt
  have q3 := r0.lt
  have q4 := r1.lt
  obtain ⟨c0, c1, c2, c3, c4⟩ := r2.row5
  obtain ⟨u0, u1, u2, u3, u4⟩ := r0.row5
  obtain ⟨n0, n1, n2, n3, n4⟩ := r1.row5
  have k0 := r1.thaw 0
  have k1 := r1.thaw 1
  have k2 := r1.thaw 2
  have k3 := r1.thaw 3
  have k4 := r1.thaw 4
  have j2 := r2.thaw 2
  have j3 := r2.thaw 3
  have j4 := r2.thaw 4
  have hne : B ≠ w.heap.size + 1 := by omega
  have hne' : w.heap.size + 1 ≠ B := by omega
  by_cases hd : askC epoch last l ep seq = 0
  · have hep := askC_epoch hd
    have HE : Hid (putE epoch last l ep seq = ep) := by show _ = _; simp [putE, putD, hd]
    have HS : Hid (putS epoch last l ep seq = seq) := by show _ = _; simp [putS, putD, hd]
    have HM : Hid (putM window epoch last l ep seq off = lastN window (putB epoch l ep ++ [⟨seq, off⟩])) := by show _ = _; simp [putM, putD, hd]
    rw [hd]
    clear hd
    by_cases he : ep > epoch
    · have HB : Hid (putB epoch l ep = []) := by show _ = _; simp [putB, he]
      have hx : ¬ ep = epoch := by omega
      clear hep
      have hX : At ((((w2.setCell ⟨B, 4, none⟩ (.slice none 0 0)).setCell ⟨B, 2, none⟩ (.int .i64 ep)).setCell ⟨B, 3, none⟩ (.int .i64 seq)).alloc (.cells #[.int .i64 seq, .int .i64 off] 61)) (some ⟨w2.heap.size, 0, none⟩) ([⟨seq, off⟩] : List Mk) := by
        have bx := Blk.new (((w2.setCell ⟨B, 4, none⟩ (.slice none 0 0)).setCell ⟨B, 2, none⟩ (.int .i64 ep)).setCell ⟨B, 3, none⟩ (.int .i64 seq)) 61 #[.int .i64 seq, .int .i64 off]
        have e : (((w2.setCell ⟨B, 4, none⟩ (.slice none 0 0)).setCell ⟨B, 2, none⟩ (.int .i64 ep)).setCell ⟨B, 3, none⟩ (.int .i64 seq)).heap.size = w2.heap.size := by simp
        rw [e] at bx
        exact .inr ⟨w2.heap.size, 0, rfl, by simp, fun j u hu => bx.cell (i := 0 + j) (by simpa [flat, Cel.cs] using hu)⟩
      have hWB : Below w.heap.size w ((((w2.setCell ⟨B, 4, none⟩ (.slice none 0 0)).setCell ⟨B, 2, none⟩ (.int .i64 ep)).setCell ⟨B, 3, none⟩ (.int .i64 seq)).alloc (.cells #[.int .i64 seq, .int .i64 off] 61)) := alloc0 (bl_set (bl_set (bl_set HB2.out (by omega) _) (by omega) _) (by omega) _) _
      obtain ⟨v', w3, hr, hown3, hgrow, hat⟩ := app_mk (w.heap.size + 1 + 1) (.slice none 0 0) [] [⟨seq, off⟩] (some ⟨w2.heap.size, 0, none⟩) 1 ((((w2.setCell ⟨B, 4, none⟩ (.slice none 0 0)).setCell ⟨B, 2, none⟩ (.int .i64 ep)).setCell ⟨B, 3, none⟩ (.int .i64 seq)).alloc (.cells #[.int .i64 seq, .int .i64 off] 61)) (by simp; omega) (World.ownsRow_nil _ _ _ _) hX (by first | (simp; done) | (simp; omega))
      simp only [List.length_cons, List.length_nil, Nat.zero_add] at hown3 hr
      have far3 : some B ≠ (Value.slice none 0 0).ownBlock := by simp [Value.ownBlock]
      have Y1 := ((((r1.other (B' := B) (by omega) 4 (.slice none 0 0)).other (B' := B) (by omega) 2 (.int .i64 ep)).other (B' := B) (by omega) 3 (.int .i64 seq)).alloc (.cells #[.int .i64 seq, .int .i64 off] 61)).kept hgrow (by simp [Value.ownBlock])
      have Y2 := ((((r2.setAt 4 (.slice none 0 0)).setAt 2 (.int .i64 ep)).setAt 3 (.int .i64 seq)).alloc (.cells #[.int .i64 seq, .int .i64 off] 61)).kept hgrow far3
      have hsz : ((((w2.setCell ⟨B, 4, none⟩ (.slice none 0 0)).setCell ⟨B, 2, none⟩ (.int .i64 ep)).setCell ⟨B, 3, none⟩ (.int .i64 seq)).alloc (.cells #[.int .i64 seq, .int .i64 off] 61)).heap.size = w2.heap.size + 1 := by simp
      have B3 := hidP (hWB.grown hgrow hWB.size (fun k e => by cases e))
      obtain ⟨g, c', hgB, hg3, hnc, hmc, rfl⟩ : ∃ g c', w.heap.size + 1 + 1 ≤ g ∧ g < w3.heap.size ∧ 1 ≤ c' ∧ c' ≤ maxLen ∧ v' = .slice (some ⟨g, 0, none⟩) (1) c' := by
        rcases hown3.2 with ⟨_, h⟩ | ⟨g, c1, cur, e1, hB, hb, h1, h2, _⟩
        · omega
        · exact ⟨g, c1, hB, Blk.lt (show Blk w3 g _ cur from hb), h1, h2, e1⟩
      have hgB' : g ≠ B := fun h => by
        rcases hat with e | e
        · exact far3 (by rw [← e, ← h]; rfl)
        · rw [hsz] at e; have : g = w2.heap.size + 1 := Option.some.inj e; omega
      have hw3 : w2.heap.size ≤ w3.heap.size := by have := hgrow.size; rw [hsz] at this; omega
      unfold maxLen at hmc
      have FR := fresh_drop (α := Mk) (j := (1) - window.toNat) (L := [] ++ [⟨seq, off⟩]) (by simp) hown3 (by omega)
      have hL := lastMarks_any g 0 (1) c' window (by omega) hnc (by omega) hmc Hw.out.2
      rw [Nat.zero_add] at hL
      have eL : lastN window (putB epoch l ep ++ [⟨seq, off⟩]) = ([] ++ [⟨seq, off⟩] : List Mk).drop ((1) - window.toNat) := by rw [HB.out]; simp [lastN]
      change Fresh _ _ (.slice (if c' = 1 - window.toNat then some ⟨g, 0, none⟩ else some ⟨g, (1 - window.toNat) * 2, none⟩) _ _) _ at FR
      have hne9 : ∀ C, C ≠ g → ∀ o n1 c1, Value.slice (if c' = 1 - window.toNat then some ⟨g, 0, none⟩ else some ⟨g, (1 - window.toNat) * 2, none⟩) (1 - (1 - window.toNat)) (c' - (1 - window.toNat)) ≠ .slice (some ⟨C, o, none⟩) n1 c1 := fun C hC o n1 c1 h => by
        simp only [Value.slice.injEq] at h
        have h1 := h.1
        split at h1 <;> (have := congrArg Addr.block (Option.some.inj h1); exact hC this.symm)
      generalize hq : (if c' = 1 - window.toNat then some (⟨g, 0, none⟩ : Addr) else some ⟨g, (1 - window.toNat) * 2, none⟩) = aL at *
      generalize hq1 : 1 - (1 - window.toNat) = nL at *
      generalize hq2 : c' - (1 - window.toNat) = cL at *
      have HF := hidP FR
      have HN := hidP hne9
      have HL := hidP hL
      have EL := hidP eL
      obtain ⟨i0, i1, i2, i3, i4⟩ := Y2.row5
      obtain ⟨m0, m1, m2, m3, m4⟩ := Y1.row5
      have x4 := Y2.thaw 4
      have y0 := Y1.thaw 0
      have y1 := Y1.thaw 1
      have y2 := Y1.thaw 2
      have y3 := Y1.thaw 3
      have y4 := Y1.thaw 4
      clear hX hWB hown3 hgrow hat hsz hq hq1 hq2 FR hne9 hL eL
      go_wp2_with (first
        | (at_builtin; refine wpList_append_is rfl _ _ _ rfl _ _ _ rfl rfl hr ?_)
        | (go_at_call 34; refine (HL.out _).mono ?_; rintro e w4 ⟨rfl, rfl⟩))
      have z : Blk _ (w.heap.size + 1) 26 #[.int .i64 row, .int .i64 who, .int .i64 ep, .int .i64 seq, .slice aL nL cL] := (((((Y1.other (B' := B) (by omega) 4 (.slice aL nL cL)).setAt 0 (.int .i64 row)).setAt 1 (.int .i64 who)).setAt 2 (.int .i64 ep)).setAt 3 (.int .i64 seq)).setAt 4 (.slice aL nL cL)
      obtain ⟨e0, e1, e2, e3, e4⟩ := z.row5
      exact bodyPost_ret (v := .agg #[.int .i64 row, .int .i64 who, .int .i64 ep, .int .i64 seq, .slice aL nL cL]) (by simp [results, Try.results7, go_sem, e0, e1, e2, e3, e4]) rfl
        ⟨_, by rw [HE.out, HS.out], by
          rw [HM.out, EL.out]
          exact ((((((HF.out.set (HN.out B (Ne.symm hgB'))).set (HN.out _ (by omega))).set (HN.out _ (by omega))).set (HN.out _ (by omega))).set (HN.out _ (by omega))).set (HN.out _ (by omega))).mono (by omega),
        bl_set (bl_set (bl_set (bl_set (bl_set (bl_set B3.out (by omega) _) (by omega) _) (by omega) _) (by omega) _) (by omega) _) (by omega) _⟩
    · have hx : ep = epoch := by omega
      have HB : Hid (putB epoch l ep = l) := by show _ = _; simp [putB, he]
      clear he hep
      subst hx
      have hX : At ((((w2).setCell ⟨B, 2, none⟩ (.int .i64 ep)).setCell ⟨B, 3, none⟩ (.int .i64 seq)).alloc (.cells #[.int .i64 seq, .int .i64 off] 61)) (some ⟨w2.heap.size, 0, none⟩) ([⟨seq, off⟩] : List Mk) := by
        have bx := Blk.new (((w2).setCell ⟨B, 2, none⟩ (.int .i64 ep)).setCell ⟨B, 3, none⟩ (.int .i64 seq)) 61 #[.int .i64 seq, .int .i64 off]
        have e : (((w2).setCell ⟨B, 2, none⟩ (.int .i64 ep)).setCell ⟨B, 3, none⟩ (.int .i64 seq)).heap.size = w2.heap.size := by simp
        rw [e] at bx
        exact .inr ⟨w2.heap.size, 0, rfl, by simp, fun j u hu => bx.cell (i := 0 + j) (by simpa [flat, Cel.cs] using hu)⟩
      have hWB : Below w.heap.size w ((((w2).setCell ⟨B, 2, none⟩ (.int .i64 ep)).setCell ⟨B, 3, none⟩ (.int .i64 seq)).alloc (.cells #[.int .i64 seq, .int .i64 off] 61)) := alloc0 (bl_set (bl_set (HB2.out) (by omega) _) (by omega) _) _
      obtain ⟨v', w3, hr, hown3, hgrow, hat⟩ := app_mk (w.heap.size + 1 + 1) (.slice a l.length c) l [⟨seq, off⟩] (some ⟨w2.heap.size, 0, none⟩) 1 ((((w2).setCell ⟨B, 2, none⟩ (.int .i64 ep)).setCell ⟨B, 3, none⟩ (.int .i64 seq)).alloc (.cells #[.int .i64 seq, .int .i64 off] 61)) (by simp; omega) (owns_alloc (owns_set (owns_set Hown2.out far2) far2) _) hX (by first | (simp; done) | (simp; omega))
      simp only [List.length_cons, List.length_nil, Nat.zero_add] at hown3 hr
      have far3 : some B ≠ (Value.slice a l.length c).ownBlock := far2
      have Y1 := ((((r1).other (B' := B) (by omega) 2 (.int .i64 ep)).other (B' := B) (by omega) 3 (.int .i64 seq)).alloc (.cells #[.int .i64 seq, .int .i64 off] 61)).kept hgrow (far1)
      have Y2 := (((r2.setAt 2 (.int .i64 ep)).setAt 3 (.int .i64 seq)).alloc (.cells #[.int .i64 seq, .int .i64 off] 61)).kept hgrow far3
      have hsz : ((((w2).setCell ⟨B, 2, none⟩ (.int .i64 ep)).setCell ⟨B, 3, none⟩ (.int .i64 seq)).alloc (.cells #[.int .i64 seq, .int .i64 off] 61)).heap.size = w2.heap.size + 1 := by simp
      have B3 := hidP (hWB.grown hgrow hWB.size (fun k e => by exact Nat.le_of_not_lt fun h => owns_far Hown2.out (show k < w.heap.size + 1 + 1 by omega) e.symm))
      obtain ⟨g, c', hgB, hg3, hnc, hmc, rfl⟩ : ∃ g c', w.heap.size + 1 + 1 ≤ g ∧ g < w3.heap.size ∧ l.length + 1 ≤ c' ∧ c' ≤ maxLen ∧ v' = .slice (some ⟨g, 0, none⟩) (l.length + 1) c' := by
        rcases hown3.2 with ⟨_, h⟩ | ⟨g, c1, cur, e1, hB, hb, h1, h2, _⟩
        · omega
        · exact ⟨g, c1, hB, Blk.lt (show Blk w3 g _ cur from hb), h1, h2, e1⟩
      have hgB' : g ≠ B := fun h => by
        rcases hat with e | e
        · exact far3 (by rw [← e, ← h]; rfl)
        · rw [hsz] at e; have : g = w2.heap.size + 1 := Option.some.inj e; omega
      have hw3 : w2.heap.size ≤ w3.heap.size := by have := hgrow.size; rw [hsz] at this; omega
      unfold maxLen at hmc
      have FR := fresh_drop (α := Mk) (j := (l.length + 1) - window.toNat) (L := l ++ [⟨seq, off⟩]) (by simp) hown3 (by omega)
      have hL := lastMarks_any g 0 (l.length + 1) c' window (by omega) hnc (by omega) hmc Hw.out.2
      rw [Nat.zero_add] at hL
      have eL : lastN window (putB ep l ep ++ [⟨seq, off⟩]) = (l ++ [⟨seq, off⟩] : List Mk).drop ((l.length + 1) - window.toNat) := by rw [HB.out]; simp [lastN]
      change Fresh _ _ (.slice (if c' = l.length + 1 - window.toNat then some ⟨g, 0, none⟩ else some ⟨g, (l.length + 1 - window.toNat) * 2, none⟩) _ _) _ at FR
      have hne9 : ∀ C, C ≠ g → ∀ o n1 c1, Value.slice (if c' = l.length + 1 - window.toNat then some ⟨g, 0, none⟩ else some ⟨g, (l.length + 1 - window.toNat) * 2, none⟩) (l.length + 1 - (l.length + 1 - window.toNat)) (c' - (l.length + 1 - window.toNat)) ≠ .slice (some ⟨C, o, none⟩) n1 c1 := fun C hC o n1 c1 h => by
        simp only [Value.slice.injEq] at h
        have h1 := h.1
        split at h1 <;> (have := congrArg Addr.block (Option.some.inj h1); exact hC this.symm)
      generalize hq : (if c' = l.length + 1 - window.toNat then some (⟨g, 0, none⟩ : Addr) else some ⟨g, (l.length + 1 - window.toNat) * 2, none⟩) = aL at *
      generalize hq1 : l.length + 1 - (l.length + 1 - window.toNat) = nL at *
      generalize hq2 : c' - (l.length + 1 - window.toNat) = cL at *
      have HF := hidP FR
      have HN := hidP hne9
      have HL := hidP hL
      have EL := hidP eL
      obtain ⟨i0, i1, i2, i3, i4⟩ := Y2.row5
      obtain ⟨m0, m1, m2, m3, m4⟩ := Y1.row5
      have x4 := Y2.thaw 4
      have y0 := Y1.thaw 0
      have y1 := Y1.thaw 1
      have y2 := Y1.thaw 2
      have y3 := Y1.thaw 3
      have y4 := Y1.thaw 4
      clear hX hWB hown3 hgrow hat hsz hq hq1 hq2 FR hne9 hL eL
      go_wp2_with (first
        | (at_builtin; refine wpList_append_is rfl _ _ _ rfl _ _ _ rfl rfl hr ?_)
        | (go_at_call 34; refine (HL.out _).mono ?_; rintro e w4 ⟨rfl, rfl⟩))
      have z : Blk _ (w.heap.size + 1) 26 #[.int .i64 row, .int .i64 who, .int .i64 ep, .int .i64 seq, .slice aL nL cL] := (((((Y1.other (B' := B) (by omega) 4 (.slice aL nL cL)).setAt 0 (.int .i64 row)).setAt 1 (.int .i64 who)).setAt 2 (.int .i64 ep)).setAt 3 (.int .i64 seq)).setAt 4 (.slice aL nL cL)
      obtain ⟨e0, e1, e2, e3, e4⟩ := z.row5
      exact bodyPost_ret (v := .agg #[.int .i64 row, .int .i64 who, .int .i64 ep, .int .i64 seq, .slice aL nL cL]) (by simp [results, Try.results7, go_sem, e0, e1, e2, e3, e4]) rfl
        ⟨_, by rw [HE.out, HS.out], by
          rw [HM.out, EL.out]
          exact ((((((HF.out.set (HN.out B (Ne.symm hgB'))).set (HN.out _ (by omega))).set (HN.out _ (by omega))).set (HN.out _ (by omega))).set (HN.out _ (by omega))).set (HN.out _ (by omega))).mono (by omega),
        bl_set (bl_set (bl_set (bl_set (bl_set (bl_set B3.out (by omega) _) (by omega) _) (by omega) _) (by omega) _) (by omega) _) (by omega) _⟩
  · have HE : Hid (putE epoch last l ep seq = epoch) := by show _ = _; simp [putE, putD, hd]
    have HS : Hid (putS epoch last l ep seq = last) := by show _ = _; simp [putS, putD, hd]
    have HM : Hid (putM window epoch last l ep seq off = l) := by show _ = _; simp [putM, putD, hd]
    generalize hC : askC epoch last l ep seq = C at *
    generalize hO : askO epoch last l ep seq = O at *
    clear hC hO
    go_wp2
    have z : Blk _ (w.heap.size + 1) 26 #[.int .i64 row, .int .i64 who, .int .i64 epoch, .int .i64 last, .slice a l.length c] := ((((r1.setAt 0 (.int .i64 row)).setAt 1 (.int .i64 who)).setAt 2 (.int .i64 epoch)).setAt 3 (.int .i64 last)).setAt 4 (.slice a l.length c)
    obtain ⟨e0, e1, e2, e3, e4⟩ := z.row5
    exact bodyPost_ret (v := .agg #[.int .i64 row, .int .i64 who, .int .i64 epoch, .int .i64 last, .slice a l.length c]) (by simp [results, Try.results7, go_sem, e0, e1, e2, e3, e4]) rfl
      ⟨_, by rw [HE.out, HS.out], by rw [HM.out]; exact fresh_owns (owns_mono (owns_set (owns_set (owns_set (owns_set (owns_set Hown2.out far1) far1) far1) far1) far1) (by omega)), bl_set (bl_set (bl_set (bl_set (bl_set HB2.out (by omega) _) (by omega) _) (by omega) _) (by omega) _) (by omega) _⟩
end Go.Proofs.Ytpbbpjckkccjaaa.Gen
