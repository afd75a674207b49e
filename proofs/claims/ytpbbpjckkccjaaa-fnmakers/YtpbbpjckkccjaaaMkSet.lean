/-
  The program's MakerSet at this seat: a new list, each maker anew, with the one laid where it belongs. No condition but that there are at most 1048576, and that numbers are 64 bits wide.
-/
import Derived.Test.YtpbbpjckkccjaaaMkSort
import Derived.Test.YtpbbpjckkccjaaaMkSet1
import Derived.Test.YtpbbpjckkccjaaaMkIns
import Derived.Test.YtpbbpjckkccjaaaImplMks
namespace Go.Proofs.Ytpbbpjckkccjaaa.Gen
open Go.ChangeShapes Go.WideShapes Go.ChangeAt Go.RowKit Go.Joins Go.Deep Base
set_option linter.unusedVariables false
set_option linter.unusedSimpArgs false

theorem onePV' (w : World) (x : MC) (t : TypeId) : In (w.alloc (.cells (Cel.cs x).toArray t)) w.heap.size 0 [x] := by
  intro j v hv
  rw [flat_one] at hv
  rw [Nat.zero_add]
  exact (Blk.new w t _).cell (by simpa using hv)
theorem Grow.in0 {α : Type} [Cel α] {P : World → α → (Nat → Prop) → Prop} {w : World} {b m : Nat} {pre : List α} (h : Grow P w b m pre) : In w b 0 pre := by
  obtain ⟨fp, hO, _⟩ := h; exact hO.lst
/-- One more record laid among others, in a new block. -/
theorem OwnF.ins {α : Type} [Cel α] {P : World → α → (Nat → Prop) → Prop} (hP : Firm P) {w w' : World} {b g i B : Nat} {l : List α} {x : α} {fp : Nat → Nat → Prop} {Sx : Nat → Prop} (h : OwnF P w b 0 l fp) (hi : i ≤ l.length) (hx : P w x Sx) (hfp : ∀ k y, fp k y → y < B ∧ y < w.heap.size) (hS : ∀ y, Sx y → B ≤ y ∧ y < w.heap.size)
    (k : Below w.heap.size w w') (hg : w.heap.size ≤ g) (hg' : g < w'.heap.size) (hin : In w' g 0 (l.take i ++ x :: l.drop i)) (hth : w'.there g 0 ((l.take i ++ x :: l.drop i).length * Cel.k α)) :
    OwnF P w' g 0 (l.take i ++ x :: l.drop i) (fun n => if n < i then fp n else if n = i then Sx else fp (n - 1)) := by
  have hlt : (l.take i).length = i := by rw [List.length_take, Nat.min_eq_left hi]
  have ko : Offp (fun _ => False) w w' := Offp.of_below k
  refine ⟨hg', hin, hth, ?_, ?_, ?_⟩
  · intro n hn
    by_cases h1 : n < i
    · simp only [if_pos h1]
      rw [List.getElem_append_left (by omega), List.getElem_take]
      exact hP _ _ _ _ _ (h.sub n (by omega)) ko (fun _ _ e => e)
    · simp only [if_neg h1]
      by_cases h2 : n = i
      · simp only [if_pos h2]
        rw [List.getElem_append_right (by omega)]
        simp only [hlt, h2, Nat.sub_self, List.getElem_cons_zero]
        exact hP _ _ _ _ _ hx ko (fun _ _ e => e)
      · simp only [if_neg h2]
        have hn' : n - 1 < l.length := by simp at hn; omega
        have e : (l.take i ++ x :: l.drop i)[n] = l[n - 1] := by
          rw [List.getElem_append_right (by omega)]
          simp only [hlt]
          obtain ⟨q, rfl⟩ : ∃ q, n = i + (q + 1) := ⟨n - i - 1, by omega⟩
          simp only [Nat.add_sub_cancel_left, List.getElem_cons_succ, List.getElem_drop]
          congr 1
        rw [e]
        exact hP _ _ _ _ _ (h.sub (n - 1) hn') ko (fun _ _ e => e)
  · intro a c hac y hy hy'
    have cases3 : ∀ n, (if n < i then fp n else if n = i then Sx else fp (n - 1)) y → (n = i ∧ Sx y) ∨ (∃ m, fp m y ∧ m = (if n < i then n else n - 1) ∧ n ≠ i) := by
      intro n hn
      by_cases h1 : n < i
      · rw [if_pos h1] at hn; exact .inr ⟨n, hn, by rw [if_pos h1], by omega⟩
      · rw [if_neg h1] at hn
        by_cases h2 : n = i
        · rw [if_pos h2] at hn; exact .inl ⟨h2, hn⟩
        · rw [if_neg h2] at hn; exact .inr ⟨n - 1, hn, by rw [if_neg h1], h2⟩
    rcases cases3 a hy with ⟨e1, s1⟩ | ⟨m1, f1, e1, n1⟩ <;> rcases cases3 c hy' with ⟨e2, s2⟩ | ⟨m2, f2, e2, n2⟩
    · omega
    · have := hS y s1; have := hfp _ y f2; omega
    · have := hS y s2; have := hfp _ y f1; omega
    · refine h.dis m1 m2 (fun e => hac ?_) y f1 f2
      subst e1 e2
      split at e <;> split at e <;> omega
  · intro n hn
    have : ∀ y, (if n < i then fp n else if n = i then Sx else fp (n - 1)) y → y < w.heap.size := by
      intro y hy
      split at hy
      · exact (hfp _ _ hy).2
      · split at hy
        · exact (hS _ hy).2
        · exact (hfp _ _ hy).2
    have := this g hn
    omega

set_option maxRecDepth 100000 in
set_option maxHeartbeats 4000000 in
/-- The walk, told where the one belongs and what is struck out. -/
theorem mset_core (A : Option Addr) (cap : Nat) (l : List MC) (row who epoch last : Int) (xA : Option Addr) (xc : Nat) (ms : List Mk) (hl : l.length ≤ 1048575) (hr : ∀ x ∈ l, I64 x.row ∧ I64 x.who) (hs : ∀ x ∈ l, x.ms.length ≤ 1048576) (hms : ms.length ≤ 1048576) (w : World) (hA : At w A l) (hE : Each w l) (hA2 : At w xA ms)
    (i : Nat) (I : List Nat) (hI : ∀ j ∈ I, j < l.length ∧ j < l.length) (hnd : I.Pairwise (· < ·)) (hiI : i ≤ I.length) (hIl : I.length ≤ l.length)
    (hplc : ∀ W b, MapIs W b l l.length → Calls Try.prog 38 #[.map (some b), .agg #[.int .i64 row, .int .i64 who, .int .i64 0]] W fun e w' => e = .returned (.int .i64 (i : Int)) ∧ Below W.heap.size W w')
    (hdel : ∀ W b, MapIs W b l l.length → ∃ w', (∀ ty, (Builtin.delete_ #[64, 67] ty #[.map (some b), .agg #[.int .i64 row, .int .i64 who, .int .i64 0]]).run Try.prog W = .ok (.tuple #[]) w') ∧ MapOn w' b l I l.length ∧ Offp (fun x => x = b) W w') :
    Calls Try.prog 9 #[.slice A l.length cap, .agg #[.int .i64 row, .int .i64 who, .int .i64 epoch, .int .i64 last, .slice xA ms.length xc]] w fun e w' => ∃ g c l', e = .returned (.slice (some ⟨g, 0, none⟩) l'.length c) ∧ Own makP w' (some ⟨g, 0, none⟩) l' (fun x => w.heap.size ≤ x ∧ x < w'.heap.size) ∧
      l'.map MC.p = (I.map (fun j => (l.getD j default).p)).take i ++ ⟨row, who, epoch, last, ms⟩ :: (I.map (fun j => (l.getD j default).p)).drop i ∧ Below w.heap.size w w' := by
  have HA := hidP hA
  have HE := hidP hE
  have HA2 := hidP hA2
  have Hr := hidP hr
  have Hms := hidP hs
  have HI := hidP hI
  have Hnd := hidP hnd
  have Hpl := hidP hplc
  have Hdel := hidP hdel
  clear hA hE hA2 hr hs hI hnd hplc hdel
  have hl : l.length ≤ 1048576 := by omega
  go_enter Try.func9, Try.ntmps9
  go_wp2_with fail
  refine (makersOf_any A cap l hl Hr.out _ (HA.out.below (alloc0 (Below.refl _ _) _))).mono ?_
  rintro e w1 ⟨rfl, hm, g1⟩
  have B1 : Below w.heap.size w w1 := via0 g1 (alloc0 (Below.refl _ _) _)
  have bX := (Blk.new w 26 #[.int .i64 row, .int .i64 who, .int .i64 epoch, .int .i64 last, .slice xA ms.length xc]).below g1 (by simp)
  have HM1 := hidP hm
  have s1 := hm.lt
  simp only [World.size_alloc] at HM1 s1
  obtain ⟨x0, x1, x2, x3, x4⟩ := bX.row5
  have xl := bX.lt
  clear hm g1
  go_wp2_with (go_at_call 37; refine (keyOf_any row who epoch last xA ms.length xc _).mono ?_; rintro e w2 ⟨rfl, g2⟩; obtain ⟨k2, m2⟩ := bcell g2; have s2 := g2.size; have G2 := hidP g2; clear g2)
  have hm2 := (HM1.out.below G2.out).below (alloc0 (Below.refl _ _) (.cells #[.int .i64 row, .int .i64 who, .int .i64 0] 67))
  refine (Hpl.out _ _ hm2).mono ?_
  rintro e w3 ⟨rfl, g3⟩
  have hm3 := hm2.below g3
  have bK := (Blk.new w2 67 #[.int .i64 row, .int .i64 who, .int .i64 0]).below g3 (by simp)
  have bX := ((bX.below G2.out bX.lt).alloc (.cells #[.int .i64 row, .int .i64 who, .int .i64 0] 67)).below g3 (by simp; omega)
  have B3 : Below w.heap.size w w3 := via0 g3 (alloc0 (via0 G2.out B1) _)
  have s3 := g3.size
  obtain ⟨u0, u1, u2⟩ := bK.row3
  have ul := bK.lt
  obtain ⟨w4, hdr, hM4, k4⟩ := Hdel.out w3 (w.heap.size + 1) hm3
  have bX := bX.offp k4 (by omega)
  have B4 : Below w.heap.size w w4 := B3.trans (k4.toBelow (fun x hx => by omega) B3.size)
  have s4 := k4.size
  simp only [World.size_alloc] at s3
  have HM4 := hidP hM4
  clear hm2 hm3 g3 k4 hM4 HM1 G2 x0 x1 x2 x3 x4 xl k2 m2 bK
  go_wp2_with fail
  refine wp_region_noPanic ?_
  refine wp_region_held_drew (S := fun (w' : World) => w'.cell? ⟨w.heap.size, 0, none⟩ = some (.int .i64 row) ∧ w'.cell? ⟨w.heap.size, 1, none⟩ = some (.int .i64 who) ∧ w'.cell? ⟨w.heap.size, 2, none⟩ = some (.int .i64 epoch) ∧ w'.cell? ⟨w.heap.size, 3, none⟩ = some (.int .i64 last) ∧ w'.cell? ⟨w.heap.size, 4, none⟩ = some (.slice xA ms.length xc)) (by kernel_rfl) ?_ (fun hH => ?_)
  · exact ⟨bX.row5.1, bX.row5.2.1, bX.row5.2.2.1, bX.row5.2.2.2.1, bX.row5.2.2.2.2⟩
  refine' wpAnyH_take (i := 0) (v := _) rfl (by kernel_rfl) (by kernel_rfl) (by kernel_rfl) (fun _ _ _ h => h) (Or.inl ⟨by rfl, ?hy1⟩) (by assumption) ?rest1
  case hy1 => (intro w hSw; (try dsimp only at hSw); go_simp <;> with_reducible rfl)
  try simp only [Act.put, List.setIfInBounds_toArray, List.set_cons_zero, List.set_cons_succ, List.getElem_toArray, List.getElem_cons_succ, List.getElem_cons_zero]
  refine' wpAnyH_take (i := 2) (v := _) rfl (by kernel_rfl) (by kernel_rfl) (by kernel_rfl) (fun _ _ _ h => h) (Or.inl ⟨by rfl, ?hy2⟩) (by assumption) ?rest2
  case hy2 => (intro w hSw; (try dsimp only at hSw); go_simp <;> with_reducible rfl)
  try simp only [Act.put, List.setIfInBounds_toArray, List.set_cons_zero, List.set_cons_succ, List.getElem_toArray, List.getElem_cons_succ, List.getElem_cons_zero]
  refine' wpAnyH_take (i := 3) (v := _) rfl (by kernel_rfl) (by kernel_rfl) (by kernel_rfl) (fun _ _ _ h => h) (Or.inl ⟨by rfl, ?hy3⟩) (by assumption) ?rest3
  case hy3 => (intro w hSw; (try dsimp only at hSw); go_simp <;> with_reducible rfl)
  try simp only [Act.put, List.setIfInBounds_toArray, List.set_cons_zero, List.set_cons_succ, List.getElem_toArray, List.getElem_cons_succ, List.getElem_cons_zero]
  refine wpAnyH_ready (rs := [1]) (by kernel_rfl) (by simp) (AllReadyH.cons rfl (fun K hK => ?_) AllReadyH.nil)
  simp only [List.getElem_toArray, List.getElem_cons_succ, List.getElem_cons_zero]
  go_simp
  go_at_call 40; refine (told_any sorts (w.heap.size + 1) l.length l I HI.out Hnd.out hl Hms.out w4.drew (show MapOn w4.drew (w.heap.size + 1) l I l.length from HM4.out) (HE.out.below (Below.drew B4))).mono ?_; rintro e w5 ⟨g, l5, rfl, hg5, hG5, hp5, b5⟩; have bX : Blk w4.drew w.heap.size 26 #[.int .i64 row, .int .i64 who, .int .i64 epoch, .int .i64 last, .slice xA ms.length xc] := bX; have bX := bX.below b5 bX.lt; have B5 : Below w.heap.size w w5 := via0 b5 (Below.drew B4); have HG5 := hidP hG5; have HP5 := hidP hp5; have hg5' := hG5.lt; have hs5 : w4.heap.size ≤ w5.heap.size := b5.size; clear hG5 hp5 b5
  refine hK.out _ _ ?_ (fun hH => ?_)
  · exact ⟨bX.row5.1, bX.row5.2.1, bX.row5.2.2.1, bX.row5.2.2.2.1, bX.row5.2.2.2.2⟩
  clear hK K
  try simp only [Act.put, List.setIfInBounds_toArray, List.set_cons_zero, List.set_cons_succ, List.getElem_toArray, List.getElem_cons_succ, List.getElem_cons_zero]
  refine wpAnyH_ready (rs := [4]) (by kernel_rfl) (by simp) (AllReadyH.cons rfl (fun K hK => ?_) AllReadyH.nil)
  simp only [List.getElem_toArray, List.getElem_cons_succ, List.getElem_cons_zero]
  go_simp
  go_at_call 33; refine (implCopied_any row who epoch last xA xc ms hms _ (HA2.out.below B5)).mono ?_; rintro e w6 ⟨v, rfl, hov, b6⟩; obtain ⟨xa, xcc, rfl, _⟩ := owns_form hov; have Hov := hidP hov; have bX := bX.below b6 bX.lt; have HB6 := hidP b6; have hs6 := b6.size; clear hov b6
  refine hK.out _ _ ?_ (fun hH => ?_)
  · exact ⟨bX.row5.1, bX.row5.2.1, bX.row5.2.2.1, bX.row5.2.2.2.1, bX.row5.2.2.2.2⟩
  clear hK K
  try simp only [Act.put, List.setIfInBounds_toArray, List.set_cons_zero, List.set_cons_succ, List.getElem_toArray, List.getElem_cons_succ, List.getElem_cons_zero]
  refine wpAnyH_ready (rs := [5]) (by kernel_rfl) (by simp) (AllReadyH.cons rfl (fun K hK => ?_) AllReadyH.nil)
  simp only [List.getElem_toArray, List.getElem_cons_succ, List.getElem_cons_zero]
  go_simp
  have bN := onePV' w6 (⟨row, who, epoch, last, xa, xcc, ms⟩ : MC) 26; have bX := bX.alloc (.cells #[.int .i64 row, .int .i64 who, .int .i64 epoch, .int .i64 last, .slice xa ms.length xcc] 26)
  refine hK.out _ _ ?_ (fun hH => ?_)
  · exact ⟨bX.row5.1, bX.row5.2.1, bX.row5.2.2.1, bX.row5.2.2.2.1, bX.row5.2.2.2.2⟩
  clear hK K
  try simp only [Act.put, List.setIfInBounds_toArray, List.set_cons_zero, List.set_cons_succ, List.getElem_toArray, List.getElem_cons_succ, List.getElem_cons_zero]
  refine wpAnyH_ready (rs := [6]) (by kernel_rfl) (by simp) (AllReadyH.cons rfl (fun K hK => ?_) AllReadyH.nil)
  simp only [List.getElem_toArray, List.getElem_cons_succ, List.getElem_cons_zero]
  go_simp
  go_at_call 39; refine (insert_any g w6.heap.size i l5 ⟨row, who, epoch, last, xa, xcc, ms⟩ (by have := congrArg List.length HP5.out; simp at this; omega) (by have := congrArg List.length HP5.out; simp at this; omega) _ (by simp; omega) (by simp) ((HG5.out.in0.below hg5' HB6.out).below (by omega) (alloc0 (Below.refl _ _) _)) bN).mono ?_; rintro e w8 ⟨g8, c8, rfl, ho8, b8⟩; have bX := bX.below b8 bX.lt; have Ho8 := hidP ho8; have HB8 := hidP b8; clear ho8 b8
  refine hK.out _ _ ?_ (fun hH => ?_)
  · exact ⟨bX.row5.1, bX.row5.2.1, bX.row5.2.2.1, bX.row5.2.2.2.1, bX.row5.2.2.2.2⟩
  clear hK K
  try simp only [Act.put, List.setIfInBounds_toArray, List.set_cons_zero, List.set_cons_succ, List.getElem_toArray, List.getElem_cons_succ, List.getElem_cons_zero]
  refine' wpAnyH_take (i := 7) (v := _) rfl (by kernel_rfl) (by kernel_rfl) (by kernel_rfl) (fun _ _ _ h => h) (Or.inl ⟨by rfl, ?hy4⟩) (by assumption) ?rest4
  case hy4 => (intro w hSw; (try dsimp only at hSw); go_simp <;> with_reducible rfl)
  try simp only [Act.put, List.setIfInBounds_toArray, List.set_cons_zero, List.set_cons_succ, List.getElem_toArray, List.getElem_cons_succ, List.getElem_cons_zero]
  refine wpAnyH_done (by kernel_rfl) ?_ _
  refine NoPanic.normal ?_
  clear hH bX
  have hB4 := B4.size
  have hg5 : w4.heap.size ≤ g := hg5
  go_wp2
  go_ret
  obtain ⟨fp, hO5, hth5, hfp5⟩ := HG5.out
  have hl5 : l5.length = I.length := by have := congrArg List.length HP5.out; simpa using this
  have hi5 : i ≤ l5.length := by omega
  have a7 := alloc0 (Below.refl w6.heap.size w6) (.cells (Cel.cs (⟨row, who, epoch, last, xa, xcc, ms⟩ : MC)).toArray 26)
  have hO7 := (hO5.below makP_firm HB6.out).below makP_firm a7
  obtain ⟨fa, fc, fe, _, hfr⟩ := fresh_owns (α := Mk) Hov.out
  cases fe
  have hP6 : makP w6 ⟨row, who, epoch, last, xa, xcc, ms⟩ (fun b => w5.heap.size ≤ b ∧ b < w6.heap.size) := by
    rcases hfr with h | ⟨b', o', e, hB, hb', hi', ht'⟩
    · exact .inl h
    · exact .inr ⟨b', o', e, ⟨by omega, hb'⟩, hb', hi', ht'⟩
  have hP7 := makP_firm _ _ _ _ _ hP6 (Offp.of_below (S := fun _ => False) a7) (fun _ _ e => e)
  obtain ⟨ra, rc, re, _, hr8⟩ := fresh_owns_n (α := MC) (by simp; omega) Ho8.out
  simp only [Value.slice.injEq] at re
  obtain ⟨rfl, _, rfl⟩ := re
  rcases hr8 with h0 | ⟨b', o', e, hB, hb', hi', ht'⟩
  · simp at h0
  obtain ⟨rfl, rfl⟩ : g8 = b' ∧ 0 = o' := by simpa using e
  have hins := hO7.ins makP_firm (B := w5.heap.size) hi5 hP7 (fun k y hy => by have := hfp5 k y hy; simp; omega) (fun y hy => by simp at hy ⊢; omega) HB8.out hB hb' hi' ht'
  have s8 := HB8.out.size
  simp only [World.size_alloc] at s8 hB
  have s5 := B5.size
  have hlen : (l5.take i ++ (⟨row, who, epoch, last, xa, xcc, ms⟩ : MC) :: l5.drop i).length = l5.length + 1 := by simp; omega
  refine ⟨g8, c8, l5.take i ++ (⟨row, who, epoch, last, xa, xcc, ms⟩ : MC) :: l5.drop i, by rw [hlen]; rfl, .inr ⟨g8, 0, _, rfl, ⟨by omega, hb'⟩, ?_, hins⟩, ?_, via0 HB8.out (alloc0 (via0 HB6.out B5) _)⟩
  · intro n y hy
    (try dsimp only at hy)
    split at hy
    · have := hfp5 _ _ hy; omega
    · split at hy
      · omega
      · have := hfp5 _ _ hy; omega
  · rw [List.map_append, List.map_cons, List.map_take, List.map_drop, HP5.out]; rfl
end Go.Proofs.Ytpbbpjckkccjaaa.Gen
