/-
  The program's makersOf and MakerOf, and the specification's MakerOf, at this seat: the first maker of a row and client.
-/
import Derived.Test.YtpbbpjckkccjaaaMkMap
import Derived.Test.YtpbbpjckkccjaaaPutParts
namespace Go.Proofs.Ytpbbpjckkccjaaa.Gen
open Go.ChangeShapes Go.WideShapes Go.ChangeAt Go.RowKit Go.Joins Go.Deep Base
set_option linter.unusedVariables false
set_option linter.unusedSimpArgs false

theorem makeMap_hint {P : Program} (t : TypeId) (n : Nat) {k e : TypeId} (hu : P.underlying t = some (.map k e)) (w : World) : (Instr.makeMap t (some (.int .i64 (n : Int)))).run P w = .ok (.map (some w.heap.size)) (w.alloc (.map #[] 0)) := by
  simp [Instr.makeMap, run_underlying hu, asInt, asIntOf, Result.andThen]

set_option maxRecDepth 100000 in
theorem keyOf_any (row who epoch last : Int) (a : Option Addr) (n c : Nat) (w : World) :
    Calls Try.prog 37 #[.agg #[.int .i64 row, .int .i64 who, .int .i64 epoch, .int .i64 last, .slice a n c]] w fun e w' => e = .returned (.agg #[.int .i64 row, .int .i64 who, .int .i64 0]) ∧ Below w.heap.size w w' := by
  go_enter Try.func37, Try.ntmps37
  go_wp2
  exact bodyPost_ret (v := .agg #[.int .i64 row, .int .i64 who, .int .i64 0]) (by simp [results, Try.results37, go_sem]) rfl
    ⟨rfl, by repeat (first | exact Below.refl _ _ | refine Below.drew ?_ | refine Below.alloc ?_ (by simp <;> omega) _ | refine Below.setCell ?_ (by simp <;> omega) _)⟩

set_option maxRecDepth 100000 in
set_option maxHeartbeats 400000 in
theorem makersOf_any (A : Option Addr) (cap : Nat) (l : List MC) (hl : l.length ≤ 1048576) (hr : ∀ x ∈ l, I64 x.row ∧ I64 x.who) (w : World) (hA : At w A l) :
    Calls Try.prog 36 #[.slice A l.length cap] w fun e w' => e = .returned (.map (some w.heap.size)) ∧ MapIs w' w.heap.size l l.length ∧ Below w.heap.size w w' := by
  have HA := hidP hA
  have Hr := hidP hr
  clear hA hr
  have hmk := makeMap_hint (P := Try.prog) 64 l.length Try.underlying64
  go_enter Try.func36, Try.ntmps36
  go_wp2
  go_loopw [14] (fun i w' => ∃ (n : Nat), i = .int .i64 (n : Int) ∧ n ≤ l.length ∧ Below w.heap.size w w' ∧ w.heap.size < w'.heap.size ∧ Hid (MapIs w' w.heap.size l n)) (fun i _ => l.length - (intOf i).toNat)
  case atStart => exact ⟨0, rfl, by omega, by repeat (first | exact Below.refl _ _ | assumption | refine via0 (by assumption) ?_ | refine Below.drew ?_ | refine alloc0 ?_ _), by simp, heap_new _ _⟩
  case round =>
    obtain ⟨n, rfl, hn, hbl, hsz, hm⟩ := hrel
    by_cases hlt : n < l.length
    · obtain ⟨b, o, rfl, hbs, hIn⟩ : ∃ b o, A = some ⟨b, o, none⟩ ∧ b < w.heap.size ∧ In w b o l := by
        rcases HA.out with h | h
        · subst h; simp at hlt
        · exact h
      obtain ⟨c0, c1, c2, c3, c4⟩ := (hIn.below hbs hbl).getMC n hlt
      have hri := Hr.out _ (List.getElem_mem hlt)
      generalize hx : l[n] = x at c0 c1 c2 c3 c4 hri
      obtain ⟨row, who, epoch, last, xA, xc, ms⟩ := x
      simp only at c0 c1 c2 c3 c4 hri
      have HX := hidP hx
      clear hx
      have q0 : w.heap.size < (wr.alloc (.cells #[.int .i64 row, .int .i64 who, .int .i64 epoch, .int .i64 last, .slice xA ms.length xc] 26)).heap.size := by simp; omega
      go_wp2_with fail
      refine (keyOf_any row who epoch last xA ms.length xc _).mono ?_
      rintro e w0 ⟨rfl, g0⟩
      have hm0 := hidP ((hm.out.below (alloc0 (Below.refl _ _) (.cells #[.int .i64 row, .int .i64 who, .int .i64 epoch, .int .i64 last, .slice xA ms.length xc] 26))).below g0)
      have hb0 : Below w.heap.size w w0 := via0 g0 (alloc0 hbl _)
      have s0 : w.heap.size < w0.heap.size := Nat.lt_of_lt_of_le q0 g0.size
      have e0 := (Blk.new wr 26 #[.int .i64 row, .int .i64 who, .int .i64 epoch, .int .i64 last, .slice xA ms.length xc]).below g0 (by simp)
      have qe := e0.lt
      obtain ⟨y0, y1, y2, y3, y4⟩ := e0.row5
      clear c0 c1 c2 c3 c4
      have hlook := look_run (w := (w0.alloc (.cells #[.int .i64 row, .int .i64 who, .int .i64 0] 67))) (row := row) (who := who) hn hl Hr.out hri.1 hri.2 (hm0.out.below (alloc0 (Below.refl _ _) _))
      rcases hlook with ⟨hrun, hns⟩ | ⟨j, hj, hjn, hrun, h1, h2, h3⟩
      · obtain ⟨w1, hput, hm1, hg1⟩ := put_run (w := (w0.alloc (.cells #[.int .i64 row, .int .i64 who, .int .i64 0] 67)).alloc (.cells #[.int .i64 0, .int .i64 0, .int .i64 0, .int .i64 0, .int .i64 0, .slice none 0 0] 75)) hlt hl Hr.out ((hm0.out.below (alloc0 (Below.refl _ _) _)).below (alloc0 (Below.refl _ _) _))
        rw [HX.out] at hput
        simp only [again, if_neg hns] at hput
        simp only [mkey, pval] at hrun hput
        have Hm1 := hidP hm1
        have Hg1 := hidP hg1
        clear hm1 hg1
        go_wp2
        have hB : Below w.heap.size w w1 := (show Below w.heap.size w ((w0.alloc (.cells #[.int .i64 row, .int .i64 who, .int .i64 0] 67)).alloc (.cells #[.int .i64 0, .int .i64 0, .int .i64 0, .int .i64 0, .int .i64 0, .slice none 0 0] 75)) by repeat (first | exact Below.refl _ _ | assumption | refine via0 (by assumption) ?_ | refine Below.drew ?_ | refine alloc0 ?_ _)).grown Hg1.out (by simp; omega) (fun k e => by cases e; omega)
        exact ⟨⟨n + 1, by go_num, by omega, hB, by have := Hg1.out.size; simp at this; omega, Hm1.out⟩, by simp [intOf]; omega⟩
      · have hs : seen l n row who := ⟨j, hj, hjn, h1, h2⟩
        generalize l[j] = y at hrun
        obtain ⟨yr, yw, ye, yl, yA, yc, ys⟩ := y
        clear h1 h2 h3
        obtain ⟨w1, hput, hm1, hg1⟩ := put_run (w := (w0.alloc (.cells #[.int .i64 row, .int .i64 who, .int .i64 (n : Int)] 67)).alloc (.cells #[.int .i64 (j : Int), .int .i64 yr, .int .i64 yw, .int .i64 ye, .int .i64 yl, .slice yA ys.length yc] 75)) hlt hl Hr.out ((hm0.out.below (alloc0 (Below.refl _ _) _)).below (alloc0 (Below.refl _ _) _))
        rw [HX.out] at hput
        simp only [again, if_pos hs] at hput
        simp only [mkey, pval] at hrun hput
        have Hm1 := hidP hm1
        have Hg1 := hidP hg1
        clear hm1 hg1 hs
        go_wp2
        have hB : Below w.heap.size w w1 := (show Below w.heap.size w ((w0.alloc (.cells #[.int .i64 row, .int .i64 who, .int .i64 (n : Int)] 67)).alloc (.cells #[.int .i64 (j : Int), .int .i64 yr, .int .i64 yw, .int .i64 ye, .int .i64 yl, .slice yA ys.length yc] 75)) by repeat (first | exact Below.refl _ _ | assumption | refine via0 (by assumption) ?_ | refine Below.drew ?_ | refine alloc0 ?_ _)).grown Hg1.out (by simp; omega) (fun k e => by cases e; omega)
        exact ⟨⟨n + 1, by go_num, by omega, hB, by have := Hg1.out.size; simp at this; omega, Hm1.out⟩, by simp [intOf]; omega⟩
    · obtain rfl : n = l.length := by omega
      go_wp2
      go_ret
      exact ⟨rfl, hm.out, hbl⟩

/-- The (first) one of a row and client, or a new one. -/
def mofP (l : List MC) (row who : Int) : PM := match l.find? (fun x => x.row == row && x.who == who) with
  | some x => x.p
  | none => ⟨row, who, 0, -1, []⟩
theorem mofP_at {l : List MC} {row who : Int} {j : Nat} (hj : j < l.length) (h1 : l[j].row = row) (h2 : l[j].who = who) (h3 : ¬ seen l j row who) : mofP l row who = l[j].p := by
  have : l.find? (fun x => x.row == row && x.who == who) = some l[j] := by
    refine List.find?_eq_some_iff_getElem.2 ⟨by simp [h1, h2], j, hj, rfl, fun i hi => ?_⟩
    have : ¬ (l[i].row = row ∧ l[i].who = who) := fun h => h3 ⟨i, by omega, hi, h.1, h.2⟩
    simp
    by_cases e1 : l[i].row = row
    · exact .inr fun e2 => this ⟨e1, e2⟩
    · exact .inl e1
  unfold mofP
  rw [this]
theorem mofP_none {l : List MC} {row who : Int} (h : ¬ seen l l.length row who) : mofP l row who = ⟨row, who, 0, -1, []⟩ := by
  have : l.find? (fun x => x.row == row && x.who == who) = none := by
    refine List.find?_eq_none.2 fun x hx => ?_
    obtain ⟨i, hi, rfl⟩ := List.getElem_of_mem hx
    simp
    intro e1 e2
    exact h ⟨i, hi, hi, e1, e2⟩
  unfold mofP
  rw [this]

set_option maxRecDepth 100000 in
set_option maxHeartbeats 1000000 in
theorem implMakerOf_any (A : Option Addr) (cap : Nat) (l : List MC) (row who : Int) (hrow : I64 row) (hwho : I64 who) (hl : l.length ≤ 1048576) (hr : ∀ x ∈ l, I64 x.row ∧ I64 x.who) (hs : ∀ x ∈ l, x.ms.length ≤ 1048576) (w : World) (hA : At w A l) (hE : Each w l) :
    Calls Try.prog 15 #[.slice A l.length cap, .int .i64 row, .int .i64 who] w fun e w' => ∃ v, e = .returned (.agg #[.int .i64 (mofP l row who).row, .int .i64 (mofP l row who).who, .int .i64 (mofP l row who).epoch, .int .i64 (mofP l row who).last, v]) ∧ w'.ownsRow w.heap.size 61 2 v (mofP l row who).ms.length (flat (mofP l row who).ms) ∧ Below w.heap.size w w' := by
  have HA := hidP hA
  have HE := hidP hE
  have Hr := hidP hr
  have Hs := hidP hs
  clear hA hr hE hs
  go_enter Try.func15, Try.ntmps15
  go_wp2_with fail
  refine (makersOf_any A cap l hl Hr.out _ (HA.out.below (alloc0 (Below.refl _ _) _))).mono ?_
  rintro e w1 ⟨rfl, hm, g1⟩
  have B1 : Below w.heap.size w w1 := via0 g1 (alloc0 (Below.refl _ _) _)
  have p1 := (Blk.new w 26 #[.int .i64 0, .int .i64 0, .int .i64 0, .int .i64 0, .slice none 0 0]).below g1 (by simp)
  obtain ⟨u0, u1, u2, u3, u4⟩ := p1.row5
  have f0 := p1.thaw 0
  have f1 := p1.thaw 1
  have f2 := p1.thaw 2
  have f3 := p1.thaw 3
  have f4 := p1.thaw 4
  have q1 := p1.lt
  have hE1 := hidP (HE.out.below B1)
  simp only [World.size_alloc] at hm
  rcases look_run (Nat.le_refl _) hl Hr.out hrow hwho hm with ⟨hrun, hns⟩ | ⟨j, hj, hjn, hrun, h1, h2, h3⟩
  · have hF := hidP (mofP_none hns)
    simp only [mkey] at hrun
    clear hm hns
    go_wp2
    have e1 : Blk _ w.heap.size 26 #[.int .i64 row, .int .i64 who, .int .i64 0, .int .i64 (-1), .slice none 0 0] := (((((p1.setAt 0 (.int .i64 row)).setAt 1 (.int .i64 who)).setAt 2 (.int .i64 0)).setAt 3 (.int .i64 (-1))).setAt 4 (.slice none 0 0)).alloc (.cells #[.int .i64 0, .int .i64 0, .int .i64 0, .int .i64 0, .int .i64 0, .slice none 0 0] 75)
    obtain ⟨x0, x1, x2, x3, x4⟩ := e1.row5
    have B2 := alloc0 (bl_set (bl_set (bl_set (bl_set (bl_set B1 (Nat.le_refl _) (i := 0) (.int .i64 row)) (Nat.le_refl _) (i := 1) (.int .i64 who)) (Nat.le_refl _) (i := 2) (.int .i64 0)) (Nat.le_refl _) (i := 3) (.int .i64 (-1))) (Nat.le_refl _) (i := 4) (.slice none 0 0)) (.cells #[.int .i64 0, .int .i64 0, .int .i64 0, .int .i64 0, .int .i64 0, .slice none 0 0] 75)
    rw [hF.out]
    exact bodyPost_ret (v := .agg #[.int .i64 row, .int .i64 who, .int .i64 0, .int .i64 (-1), .slice none 0 0]) (by simp [results, Try.results15, go_sem, x0, x1, x2, x3, x4]) rfl
      ⟨_, rfl, World.ownsRow_nil _ _ _ _, B2⟩
  · have hF := hidP (mofP_at hj h1 h2 h3)
    have hat := hidP (hE1.out _ (List.getElem_mem hj))
    have hms := Hs.out _ (List.getElem_mem hj)
    generalize l[j] = y at hrun hF hat hms
    obtain ⟨yr, yw, ye, yl, yA, yc, ys⟩ := y
    simp only [mkey, pval] at hrun
    clear hm h1 h2 h3
    go_wp2_with fail
    refine (implCopied_any yr yw ye yl yA yc ys hms _ (hat.out.below (alloc0 (Below.refl _ _) _))).mono ?_
    rintro e w2 ⟨v, rfl, hown, g2⟩
    obtain ⟨a, c, rfl, hc⟩ := owns_form hown
    have B2 : Below w.heap.size w w2 := via0 g2 (alloc0 B1 _)
    have p2 := (p1.alloc _).below g2 (p1.alloc _).lt
    have hfar := hidP (owns_far hown (C := w.heap.size) (by simp; omega))
    have Hown := hidP (owns_mono hown (C := w.heap.size) (by simp; omega))
    clear u0 u1 u2 u3 u4 f0 f1 f2 f3 f4 hown
    obtain ⟨u0, u1, u2, u3, u4⟩ := p2.row5
    have f0 := p2.thaw 0
    have f1 := p2.thaw 1
    have f2 := p2.thaw 2
    have f3 := p2.thaw 3
    have f4 := p2.thaw 4
    go_wp2
    have e1 : Blk _ w.heap.size 26 #[.int .i64 yr, .int .i64 yw, .int .i64 ye, .int .i64 yl, .slice a ys.length c] := ((((p2.setAt 0 (.int .i64 yr)).setAt 1 (.int .i64 yw)).setAt 2 (.int .i64 ye)).setAt 3 (.int .i64 yl)).setAt 4 (.slice a ys.length c)
    obtain ⟨x0, x1, x2, x3, x4⟩ := e1.row5
    rw [hF.out]
    exact bodyPost_ret (v := .agg #[.int .i64 yr, .int .i64 yw, .int .i64 ye, .int .i64 yl, .slice a ys.length c]) (by simp [results, Try.results15, go_sem, x0, x1, x2, x3, x4]) rfl
      ⟨_, rfl, owns_set (owns_set (owns_set (owns_set (owns_set Hown.out hfar.out) hfar.out) hfar.out) hfar.out) hfar.out,
        bl_set (bl_set (bl_set (bl_set (bl_set B2 (Nat.le_refl _) _) (Nat.le_refl _) _) (Nat.le_refl _) _) (Nat.le_refl _) _) (Nat.le_refl _) _⟩

set_option maxRecDepth 100000 in
set_option maxHeartbeats 1000000 in
theorem specMakerOf_any (A : Option Addr) (cap : Nat) (l : List MC) (row who : Int) (hl : l.length ≤ 1048576) (hs : ∀ x ∈ l, x.ms.length ≤ 1048576) (w : World) (hA : At w A l) (hE : Each w l) :
    Calls Try.prog 16 #[.slice A l.length cap, .int .i64 row, .int .i64 who] w fun e w' => ∃ v, e = .returned (.agg #[.int .i64 (mofP l row who).row, .int .i64 (mofP l row who).who, .int .i64 (mofP l row who).epoch, .int .i64 (mofP l row who).last, v]) ∧ w'.ownsRow w.heap.size 61 2 v (mofP l row who).ms.length (flat (mofP l row who).ms) ∧ Below w.heap.size w w' := by
  have HA := hidP hA
  have HE := hidP hE
  have Hs := hidP hs
  clear hA hE hs
  go_enter Try.func16, Try.ntmps16
  go_wp2
  go_loopw [7] (fun i w' => ∃ (n : Nat), i = .int .i64 (n : Int) ∧ n ≤ l.length ∧ Below w.heap.size w w' ∧ Hid (Blk w' w.heap.size 26 #[.int .i64 0, .int .i64 0, .int .i64 0, .int .i64 0, .slice none 0 0]) ∧ Hid (¬ seen l n row who)) (fun i _ => l.length - (intOf i).toNat)
  case atStart => exact ⟨0, rfl, by omega, alloc0 (Below.refl _ _) _, Blk.new _ _ _, by rintro ⟨i, h, hi, _⟩; omega⟩
  case round =>
    obtain ⟨n, rfl, hn, B1, P1, hns⟩ := hrel
    have p1 := P1.out
    obtain ⟨u0, u1, u2, u3, u4⟩ := p1.row5
    have f0 := p1.thaw 0
    have f1 := p1.thaw 1
    have f2 := p1.thaw 2
    have f3 := p1.thaw 3
    have f4 := p1.thaw 4
    have q1 := p1.lt
    by_cases hlt : n < l.length
    · obtain ⟨b, o, rfl, hbs, hIn⟩ : ∃ b o, A = some ⟨b, o, none⟩ ∧ b < w.heap.size ∧ In w b o l := by
        rcases HA.out with h | h
        · subst h; simp at hlt
        · exact h
      obtain ⟨c0, c1, c2, c3, c4⟩ := (hIn.below hbs B1).getMC n hlt
      have hat := hidP ((HE.out _ (List.getElem_mem hlt)).below B1)
      have hms := Hs.out _ (List.getElem_mem hlt)
      have hi0 : (0 : Int) ≤ (n : Int) := by omega
      have hi1 : (n : Int) < (l.length : Int) := by omega
      have hstep : ¬ (l[n].row = row ∧ l[n].who = who) → ¬ seen l (n + 1) row who := fun h => by
        rintro ⟨i, hi, hin, h1, h2⟩
        by_cases e : i = n
        · subst e; exact h ⟨h1, h2⟩
        · exact hns.out ⟨i, hi, by omega, h1, h2⟩
      by_cases hm : l[n].row = row ∧ l[n].who = who
      · have hF := hidP (mofP_at hlt hm.1 hm.2 hns.out)
        have hd1 := decide_eq_true hm.1
        have hd2 := decide_eq_true hm.2
        have hd3 : (l[n].row == row) = true := by simp [hm.1]
        have hd4 : (l[n].who == who) = true := by simp [hm.2]
        clear hstep hm
        generalize l[n] = y at c0 c1 c2 c3 c4 hat hms hd1 hd2 hd3 hd4 hF
        obtain ⟨yr, yw, ye, yl, yA, yc, ys⟩ := y
        simp only at c0 c1 c2 c3 c4 hat hms hd1 hd2 hd3 hd4
        go_wp2_with fail
        refine (specCopied_any yr yw ye yl yA yc ys hms _ hat.out).mono ?_
        rintro e w2 ⟨v, rfl, hown, g2⟩
        obtain ⟨a, c, rfl, hc⟩ := owns_form hown
        have B2 : Below w.heap.size w w2 := via0 g2 B1
        have p2 := p1.below g2 p1.lt
        have hfar := hidP (owns_far hown (C := w.heap.size) q1)
        have Hown := hidP (owns_mono hown (C := w.heap.size) (by omega))
        clear u0 u1 u2 u3 u4 f0 f1 f2 f3 f4 hown
        obtain ⟨u0, u1, u2, u3, u4⟩ := p2.row5
        have f0 := p2.thaw 0
        have f1 := p2.thaw 1
        have f2 := p2.thaw 2
        have f3 := p2.thaw 3
        have f4 := p2.thaw 4
        go_wp2
        have e1 : Blk _ w.heap.size 26 #[.int .i64 yr, .int .i64 yw, .int .i64 ye, .int .i64 yl, .slice a ys.length c] := ((((p2.setAt 0 (.int .i64 yr)).setAt 1 (.int .i64 yw)).setAt 2 (.int .i64 ye)).setAt 3 (.int .i64 yl)).setAt 4 (.slice a ys.length c)
        obtain ⟨x0, x1, x2, x3, x4⟩ := e1.row5
        rw [hF.out]
        exact bodyPost_ret (v := .agg #[.int .i64 yr, .int .i64 yw, .int .i64 ye, .int .i64 yl, .slice a ys.length c]) (by simp [results, Try.results16, go_sem, x0, x1, x2, x3, x4]) rfl
          ⟨_, rfl, owns_set (owns_set (owns_set (owns_set (owns_set Hown.out hfar.out) hfar.out) hfar.out) hfar.out) hfar.out,
            bl_set (bl_set (bl_set (bl_set (bl_set B2 (Nat.le_refl _) _) (Nat.le_refl _) _) (Nat.le_refl _) _) (Nat.le_refl _) _) (Nat.le_refl _) _⟩
      · have Hst := hidP (hstep hm)
        clear hstep
        by_cases h1 : l[n].row = row
        · have hd1 := decide_eq_true h1
          have hd2 : decide (l[n].who = who) = false := decide_eq_false (fun h => hm ⟨h1, h⟩)
          have hd3 : (l[n].row == row) = true := by simp [h1]
          have hd4 : (l[n].who == who) = false := by simp; exact fun h => hm ⟨h1, h⟩
          clear hm h1
          go_wp2
          exact ⟨⟨n + 1, by go_num, by omega, B1, P1, Hst⟩, by simp [intOf]; omega⟩
        · have hd1 := decide_eq_false h1
          have hd3 : (l[n].row == row) = false := by simp [h1]
          clear hm h1
          go_wp2
          exact ⟨⟨n + 1, by go_num, by omega, B1, P1, Hst⟩, by simp [intOf]; omega⟩
    · obtain rfl : n = l.length := by omega
      have hF := hidP (mofP_none hns.out)
      go_wp2
      have e1 : Blk _ w.heap.size 26 #[.int .i64 row, .int .i64 who, .int .i64 0, .int .i64 (-1), .slice none 0 0] := ((((p1.setAt 0 (.int .i64 row)).setAt 1 (.int .i64 who)).setAt 2 (.int .i64 0)).setAt 3 (.int .i64 (-1))).setAt 4 (.slice none 0 0)
      obtain ⟨x0, x1, x2, x3, x4⟩ := e1.row5
      rw [hF.out]
      exact bodyPost_ret (v := .agg #[.int .i64 row, .int .i64 who, .int .i64 0, .int .i64 (-1), .slice none 0 0]) (by simp [results, Try.results16, go_sem, x0, x1, x2, x3, x4]) rfl
        ⟨_, rfl, World.ownsRow_nil _ _ _ _, bl_set (bl_set (bl_set (bl_set (bl_set B1 (Nat.le_refl _) _) (Nat.le_refl _) _) (Nat.le_refl _) _) (Nat.le_refl _) _) (Nat.le_refl _) _⟩
end Go.Proofs.Ytpbbpjckkccjaaa.Gen
