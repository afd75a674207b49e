/-
  spec.RowPack at this seat.
-/
import Derived.Test.YtnmbbkagjpmhdaaSpecBehind
import Derived.Test.YtnmbbkagjpmhdaaSpecRowOk2
import Derived.Test.YtnmbbkagjpmhdaaOwns
namespace Go.Proofs.Ytnmbbkagjpmhdaa.Items
open Go.ChangeShapes Go.WideShapes Go.ChangeAt Go.RowKit Go.Shelf Base
set_option linter.unusedVariables false
set_option linter.unusedSimpArgs false

set_option maxRecDepth 100000 in
set_option maxHeartbeats 1000000 in
theorem specPack_no (start next length : Int) (A : Option Addr) (cap : Nat) (l : List It) (hl : l.length ≤ 1048576) (hs : ∀ x ∈ l, x.key.size ≤ 9223372036854775807 ∧ x.text.size ≤ 9223372036854775807) (hn : I64 next)
    (h1 : packB start next length l = false) (w : World) (hA : At w A l) :
    Calls Try.prog 26 #[.agg #[.int .i64 start, .int .i64 next, .slice A l.length cap], .int .i64 length] w fun e w' => ∃ v, e = .returned (.agg #[.int .i64 start, .int .i64 next, v]) ∧ w'.ownsRow w.heap.size 34 5 v l.length (flat l) ∧ Below w.heap.size w w' := by
  have HA : Hid (At w A l) := hA
  have Hs := hidP hs
  have Hn := hidP hn
  clear hA hs hn
  have B0 : Below w.heap.size w ((w.alloc (.cells #[.int .i64 start, .int .i64 next, .slice A l.length cap] 26)).alloc (.cells #[.int .i64 0, .int .i64 0, .slice none 0 0] 26)) := alloc0 (alloc0 (Below.refl _ _) _) _
  have p0 := (Blk.new w 26 #[.int .i64 start, .int .i64 next, .slice A l.length cap]).alloc (.cells #[.int .i64 0, .int .i64 0, .slice none 0 0] 26)
  have p1 := Blk.new (w.alloc (.cells #[.int .i64 start, .int .i64 next, .slice A l.length cap] 26)) 26 #[.int .i64 0, .int .i64 0, .slice none 0 0]
  rw [World.size_alloc] at p1
  have tail : ∀ w1 : World, Below w.heap.size w w1 → Blk w1 (w.heap.size + 1) 26 #[.int .i64 0, .int .i64 0, .slice none 0 0] → Calls Try.prog 39 #[.agg #[.int .i64 start, .int .i64 next, .slice A l.length cap]] w1 fun e w2 => ∃ a c, e = .returned (.agg #[.int .i64 start, .int .i64 next, .slice a l.length c]) ∧ Hid (w2.ownsRow w1.heap.size 34 5 (.slice a l.length c) l.length (flat l)) ∧ Hid (Below w.heap.size w w2) ∧ Hid (Blk w2 (w.heap.size + 1) 26 #[.int .i64 0, .int .i64 0, .slice none 0 0]) ∧ Hid (some (w.heap.size + 1) ≠ (Value.slice a l.length c).ownBlock) := by
    intro w1 hw b1
    refine (l3Copy_any start next A cap l hl _ (HA.out.below hw)).mono ?_
    rintro e w2 ⟨v, rfl, hown, g2⟩
    obtain ⟨a, c, rfl, _⟩ := owns_form hown
    exact ⟨a, c, rfl, hown, via0 g2 hw, b1.below g2 b1.lt, owns_far hown b1.lt⟩
  have Tail := hidP tail
  clear tail
  by_cases hx : length < 1
  · go_enter Try.func26, Try.ntmps26
    go_wp2_with fail
    refine (Tail.out _ B0 p1).mono ?_
    rintro e w2 ⟨a, c, rfl, Hown, B2, z1, Far⟩
    obtain ⟨n0, n1, n2⟩ := z1.out.row
    have k0 := z1.out.thaw 0
    have k1 := z1.out.thaw 1
    have k2 := z1.out.thaw 2
    go_wp2
    have z : Blk _ (w.heap.size + 1) 26 #[.int .i64 start, .int .i64 next, .slice a l.length c] := ((z1.out.setAt 0 (.int .i64 start)).setAt 1 (.int .i64 next)).setAt 2 (.slice a l.length c)
    obtain ⟨e0, e1, e2⟩ := z.row
    exact bodyPost_ret (v := .agg #[.int .i64 start, .int .i64 next, .slice a l.length c]) (by simp [results, Try.results26, go_sem, e0, e1, e2]) rfl
      ⟨_, rfl, owns_mono (owns_set (owns_set (owns_set Hown.out Far.out) Far.out) Far.out) B0.size, bl_set (bl_set (bl_set B2.out (by omega) _) (by omega) _) (by omega) _⟩
  have hr : rowB start next l = false := by
    simp only [packB, Bool.and_eq_false_iff, decide_eq_false_iff_not] at h1
    rcases h1 with h | h
    · omega
    · exact h
  have HR := hidP hr
  clear hr h1
  go_enter Try.func26, Try.ntmps26
  go_wp2_with fail
  refine (specRowOk_any start next A cap l (by omega) Hs.out Hn.out.1 Hn.out.2 _ (HA.out.below B0)).mono ?_
  rintro e w1 ⟨rfl, g1⟩
  rw [HR.out]
  have B1 : Below w.heap.size w w1 := via0 g1 B0
  have r0 := p0.below g1 p0.lt
  have r1 := p1.below g1 p1.lt
  obtain ⟨u0, u1, u2⟩ := r0.row
  go_wp2_with fail
  refine (Tail.out _ B1 r1).mono ?_
  rintro e w2 ⟨a, c, rfl, Hown, B2, z1, Far⟩
  obtain ⟨n0, n1, n2⟩ := z1.out.row
  have k0 := z1.out.thaw 0
  have k1 := z1.out.thaw 1
  have k2 := z1.out.thaw 2
  clear u0 u1 u2
  go_wp2
  have z : Blk _ (w.heap.size + 1) 26 #[.int .i64 start, .int .i64 next, .slice a l.length c] := ((z1.out.setAt 0 (.int .i64 start)).setAt 1 (.int .i64 next)).setAt 2 (.slice a l.length c)
  obtain ⟨e0, e1, e2⟩ := z.row
  exact bodyPost_ret (v := .agg #[.int .i64 start, .int .i64 next, .slice a l.length c]) (by simp [results, Try.results26, go_sem, e0, e1, e2]) rfl
    ⟨_, rfl, owns_mono (owns_set (owns_set (owns_set Hown.out Far.out) Far.out) Far.out) B1.size, bl_set (bl_set (bl_set B2.out (by omega) _) (by omega) _) (by omega) _⟩

def SPack (w wr : World) (B : Nat) (start next length : Int) (A : Option Addr) (cap : Nat) (l : List It) (n : Nat) : Prop :=
  ∃ (M : List It) (a : Option Addr) (c : Nat), Blk wr w.heap.size 26 #[.int .i64 start, .int .i64 next, .slice A l.length cap] ∧ Blk wr (w.heap.size + 1) 26 #[.int .i64 0, .int .i64 0, .slice none 0 0] ∧ Blk wr B 26 #[.int .i64 start, .int .i64 next, .slice a M.length c] ∧
    wr.ownsRow (w.heap.size + 1 + 1) 34 5 (.slice a M.length c) M.length (flat M) ∧ some B ≠ (Value.slice a M.length c).ownBlock ∧ Below w.heap.size w wr ∧ M.length ≤ n ∧ M ++ packF (IntKind.i64.wrap (next - 1)) length (l.drop n) = packF (IntKind.i64.wrap (next - 1)) length l

set_option maxRecDepth 100000 in
set_option maxHeartbeats 4000000 in
theorem specPack_yes (start next length : Int) (A : Option Addr) (cap : Nat) (l : List It) (hl : l.length ≤ 1048576) (hs : ∀ x ∈ l, x.key.size ≤ 9223372036854775807 ∧ x.text.size ≤ 9223372036854775807) (hn : I64 next)
    (h1 : packB start next length l = true) (w : World) (hA : At w A l) :
    Calls Try.prog 26 #[.agg #[.int .i64 start, .int .i64 next, .slice A l.length cap], .int .i64 length] w fun e w' => ∃ v, e = .returned (.agg #[.int .i64 start, .int .i64 next, v]) ∧ w'.ownsRow w.heap.size 34 5 v (packF (IntKind.i64.wrap (next - 1)) length l).length (flat (packF (IntKind.i64.wrap (next - 1)) length l)) ∧ Below w.heap.size w w' := by
  have HA : Hid (At w A l) := hA
  have Hs := hidP hs
  have Hn := hidP hn
  simp only [packB, Bool.and_eq_true, decide_eq_true_eq] at h1
  obtain ⟨h1, hr⟩ := h1
  have HR := hidP hr
  clear hA hs hn hr
  have B0 : Below w.heap.size w ((w.alloc (.cells #[.int .i64 start, .int .i64 next, .slice A l.length cap] 26)).alloc (.cells #[.int .i64 0, .int .i64 0, .slice none 0 0] 26)) := alloc0 (alloc0 (Below.refl _ _) _) _
  have p0 := (Blk.new w 26 #[.int .i64 start, .int .i64 next, .slice A l.length cap]).alloc (.cells #[.int .i64 0, .int .i64 0, .slice none 0 0] 26)
  have p1 := Blk.new (w.alloc (.cells #[.int .i64 start, .int .i64 next, .slice A l.length cap] 26)) 26 #[.int .i64 0, .int .i64 0, .slice none 0 0]
  rw [World.size_alloc] at p1
  have hx : ¬ length < 1 := by omega
  have hz : ¬ length = 0 := by omega
  go_enter Try.func26, Try.ntmps26
  go_wp2_with fail
  refine (specRowOk_any start next A cap l (by omega) Hs.out Hn.out.1 Hn.out.2 _ (HA.out.below B0)).mono ?_
  rintro e w1 ⟨rfl, g1⟩
  rw [HR.out]
  have B1 : Below w.heap.size w w1 := via0 g1 B0
  have r0 := p0.below g1 p0.lt
  have r1 := p1.below g1 p1.lt
  have q1 := r1.lt
  obtain ⟨u0, u1, u2⟩ := r0.row
  go_wp2_with fail
  have S0 : Hid (SPack w (w1.alloc (.cells #[.int .i64 start, .int .i64 next, .slice none 0 0] 26)) w1.heap.size start next length A cap l 0) :=
    ⟨[], none, 0, r0.alloc _, r1.alloc _, Blk.new w1 _ _, World.ownsRow_nil _ _ _ _, by simp [Value.ownBlock], alloc0 B1 _, Nat.le_refl _, by simp⟩
  generalize w1.alloc (.cells #[.int .i64 start, .int .i64 next, .slice none 0 0] 26) = W0 at *
  generalize hBB : w1.heap.size = B at *
  have hB1 : w.heap.size + 1 < B := q1
  clear hBB u0 u1 u2 r0 r1 p0 p1 B0 B1 g1 q1
  go_loopw [6] (fun i wr => ∃ n : Nat, i = .int .i64 (n : Int) ∧ n ≤ l.length ∧ SPack w wr B start next length A cap l n) (fun i _ => l.length - (intOf i).toNat)
  case atStart => exact ⟨0, rfl, by omega, S0.out⟩
  case round =>
    obtain ⟨n, rfl, hn, M, a, c, b0, b1, bB, hown, hfar, hB, hM, hpk⟩ := hrel
    have hpk := hidP hpk
    have hown := hidP hown
    have hB := hidP hB
    obtain ⟨v0, v1, v2⟩ := b0.row
    obtain ⟨m0, m1, m2⟩ := bB.row
    by_cases hlt : n < l.length
    · obtain ⟨b, o, rfl, hb, hin⟩ : ∃ b o, A = some ⟨b, o, none⟩ ∧ b < w.heap.size ∧ In w b o l := HA.out.resolve_left (fun h => by rw [h] at hlt; simp at hlt)
      have Hin := hidP hin
      obtain ⟨x0, x1, x2, x3, x4⟩ := (hin.below hb hB.out).get n hlt
      have hi0 : (0 : Int) ≤ (n : Int) := by omega
      have hi1 : (n : Int) < (l.length : Int) := by omega
      clear hin
      go_wp2_with fail
      have bX := Blk.new wr 34 #[.int .i64 l[n].off, .string l[n].key, .string l[n].text, .int .i64 l[n].who, .int .i64 l[n].time]
      have HB1 := hidP (alloc0 hB.out (.cells #[.int .i64 l[n].off, .string l[n].key, .string l[n].text, .int .i64 l[n].who, .int .i64 l[n].time] 34))
      have Hown := hidP (owns_alloc hown.out (.cells #[.int .i64 l[n].off, .string l[n].key, .string l[n].text, .int .i64 l[n].who, .int .i64 l[n].time] 34))
      have b0 := b0.alloc (.cells #[.int .i64 l[n].off, .string l[n].key, .string l[n].text, .int .i64 l[n].who, .int .i64 l[n].time] 34)
      have b1 := b1.alloc (.cells #[.int .i64 l[n].off, .string l[n].key, .string l[n].text, .int .i64 l[n].who, .int .i64 l[n].time] 34)
      have bB := bB.alloc (.cells #[.int .i64 l[n].off, .string l[n].key, .string l[n].text, .int .i64 l[n].who, .int .i64 l[n].time] 34)
      generalize wr.alloc (.cells #[.int .i64 l[n].off, .string l[n].key, .string l[n].text, .int .i64 l[n].who, .int .i64 l[n].time] 34) = W1 at *
      generalize hXX : wr.heap.size = X at *
      clear v0 v1 v2 m0 m1 m2 x0 x1 x2 x3 x4 hXX
      obtain ⟨v0, v1, v2⟩ := b0.row
      obtain ⟨x0, x1, x2, x3, x4⟩ := bX.item
      have qX := bX.lt
      have q0 := b0.lt
      have SE : Hid ((fun w' => w'.cell? ⟨w.heap.size, 0, none⟩ = some (.int .i64 start) ∧ w'.cell? ⟨w.heap.size, 1, none⟩ = some (.int .i64 next) ∧ w'.cell? ⟨w.heap.size, 2, none⟩ = some (.slice (some ⟨b, o, none⟩) l.length cap) ∧ w'.cell? ⟨X, 0, none⟩ = some (.int .i64 l[n].off) ∧ w'.cell? ⟨X, 1, none⟩ = some (.string l[n].key)) W1.drew) := ⟨v0, v1, v2, x0, x1⟩
      have SK : ∀ w2, Below W1.drew.heap.size W1.drew w2 → (fun w' => w'.cell? ⟨w.heap.size, 0, none⟩ = some (.int .i64 start) ∧ w'.cell? ⟨w.heap.size, 1, none⟩ = some (.int .i64 next) ∧ w'.cell? ⟨w.heap.size, 2, none⟩ = some (.slice (some ⟨b, o, none⟩) l.length cap) ∧ w'.cell? ⟨X, 0, none⟩ = some (.int .i64 l[n].off) ∧ w'.cell? ⟨X, 1, none⟩ = some (.string l[n].key)) w2 := fun w2 g => by
        obtain ⟨k1, _⟩ := bcell g
        exact ⟨(k1 _ _ q0).trans v0, (k1 _ _ q0).trans v1, (k1 _ _ q0).trans v2, (k1 _ _ qX).trans x0, (k1 _ _ qX).trans x1⟩
      by_cases hE : l[n].key.toList = []
      · have G : Hid (l[n].key.toList.isEmpty = true) := by show _ = _; simp [hE]
        have HST : Hid (staysB (IntKind.i64.wrap (next - 1)) length l[n] (l.drop (n + 1)) = true) := by show _ = _; simp [staysB, hE]
        clear hE
        refine wp_region_noPanic ?_
        refine wp_region_held_drew (S := fun w' => w'.cell? ⟨w.heap.size, 0, none⟩ = some (.int .i64 start) ∧ w'.cell? ⟨w.heap.size, 1, none⟩ = some (.int .i64 next) ∧ w'.cell? ⟨w.heap.size, 2, none⟩ = some (.slice (some ⟨b, o, none⟩) l.length cap) ∧ w'.cell? ⟨X, 0, none⟩ = some (.int .i64 l[n].off) ∧ w'.cell? ⟨X, 1, none⟩ = some (.string l[n].key)) (by kernel_rfl) ?_ (fun hH => ?_)
        · exact SE.out
        refine' wpAnyH_take (i := 0) (v := _) rfl (by kernel_rfl) (by kernel_rfl) (by kernel_rfl) (fun _ _ _ h => h) (Or.inl ⟨by rfl, ?hy1⟩) (by assumption) ?rest1
        case hy1 => (intro w hSw; (try dsimp only at hSw); go_simp <;> with_reducible rfl)
        try simp only [Act.put, List.setIfInBounds_toArray, List.set_cons_zero, List.set_cons_succ, List.getElem_toArray, List.getElem_cons_succ, List.getElem_cons_zero]
        refine' wpAnyH_take (i := 1) (v := _) rfl (by kernel_rfl) (by kernel_rfl) (by kernel_rfl) (fun _ _ _ h => h) (Or.inl ⟨by rfl, ?hy2⟩) (by assumption) ?rest2
        case hy2 => (intro w hSw; (try dsimp only at hSw); go_simp <;> with_reducible rfl)
        try simp only [Act.put, List.setIfInBounds_toArray, List.set_cons_zero, List.set_cons_succ, List.getElem_toArray, List.getElem_cons_succ, List.getElem_cons_zero]
        refine' wpAnyH_take (i := 2) (v := _) rfl (by kernel_rfl) (by kernel_rfl) (by kernel_rfl) (fun _ _ _ h => h) (Or.inl ⟨by rfl, ?hy3⟩) (by assumption) ?rest3
        case hy3 => (intro w hSw; (try dsimp only at hSw); go_simp <;> ((first | rw [G.out] | simp only [G.out] | skip) <;> with_reducible rfl))
        try simp only [Act.put, List.setIfInBounds_toArray, List.set_cons_zero, List.set_cons_succ, List.getElem_toArray, List.getElem_cons_succ, List.getElem_cons_zero]
        refine' wpAnyH_take (i := 3) (v := _) rfl (by kernel_rfl) (by kernel_rfl) (by kernel_rfl) (fun _ _ _ h => h) (Or.inl ⟨by rfl, ?hy4⟩) (by assumption) ?rest4
        case hy4 => (intro w hSw; (try dsimp only at hSw); go_simp <;> with_reducible rfl)
        try simp only [Act.put, List.setIfInBounds_toArray, List.set_cons_zero, List.set_cons_succ, List.getElem_toArray, List.getElem_cons_succ, List.getElem_cons_zero]
        refine wpAnyH_take (i := 4) (v := undef) rfl (by kernel_rfl) (by kernel_rfl) (by kernel_rfl) (fun _ _ _ h => h) (Or.inr ⟨by rfl, rfl⟩) (by assumption) ?_
        try simp only [Act.put, List.setIfInBounds_toArray, List.set_cons_zero, List.set_cons_succ, List.getElem_toArray, List.getElem_cons_succ, List.getElem_cons_zero]
        refine wpAnyH_take (i := 5) (v := undef) rfl (by kernel_rfl) (by kernel_rfl) (by kernel_rfl) (fun _ _ _ h => h) (Or.inr ⟨by rfl, rfl⟩) (by assumption) ?_
        try simp only [Act.put, List.setIfInBounds_toArray, List.set_cons_zero, List.set_cons_succ, List.getElem_toArray, List.getElem_cons_succ, List.getElem_cons_zero]
        refine wpAnyH_take (i := 6) (v := undef) rfl (by kernel_rfl) (by kernel_rfl) (by kernel_rfl) (fun _ _ _ h => h) (Or.inr ⟨by rfl, rfl⟩) (by assumption) ?_
        try simp only [Act.put, List.setIfInBounds_toArray, List.set_cons_zero, List.set_cons_succ, List.getElem_toArray, List.getElem_cons_succ, List.getElem_cons_zero]
        refine wpAnyH_take (i := 7) (v := undef) rfl (by kernel_rfl) (by kernel_rfl) (by kernel_rfl) (fun _ _ _ h => h) (Or.inr ⟨by rfl, rfl⟩) (by assumption) ?_
        try simp only [Act.put, List.setIfInBounds_toArray, List.set_cons_zero, List.set_cons_succ, List.getElem_toArray, List.getElem_cons_succ, List.getElem_cons_zero]
        refine' wpAnyH_take (i := 8) (v := _) rfl (by kernel_rfl) (by kernel_rfl) (by kernel_rfl) (fun _ _ _ h => h) (Or.inl ⟨by rfl, ?hy5⟩) (by assumption) ?rest5
        case hy5 => (intro w hSw; (try dsimp only at hSw); go_simp <;> with_reducible rfl)
        try simp only [Act.put, List.setIfInBounds_toArray, List.set_cons_zero, List.set_cons_succ, List.getElem_toArray, List.getElem_cons_succ, List.getElem_cons_zero]
        refine' wpAnyH_take (i := 9) (v := _) rfl (by kernel_rfl) (by kernel_rfl) (by kernel_rfl) (fun _ _ _ h => h) (Or.inl ⟨by rfl, ?hy6⟩) (by assumption) ?rest6
        case hy6 => (intro w hSw; (try dsimp only at hSw); go_simp <;> with_reducible rfl)
        try simp only [Act.put, List.setIfInBounds_toArray, List.set_cons_zero, List.set_cons_succ, List.getElem_toArray, List.getElem_cons_succ, List.getElem_cons_zero]
        refine wpAnyH_take (i := 10) (v := undef) rfl (by kernel_rfl) (by kernel_rfl) (by kernel_rfl) (fun _ _ _ h => h) (Or.inr ⟨by rfl, rfl⟩) (by assumption) ?_
        try simp only [Act.put, List.setIfInBounds_toArray, List.set_cons_zero, List.set_cons_succ, List.getElem_toArray, List.getElem_cons_succ, List.getElem_cons_zero]
        refine wpAnyH_take (i := 11) (v := undef) rfl (by kernel_rfl) (by kernel_rfl) (by kernel_rfl) (fun _ _ _ h => h) (Or.inr ⟨by rfl, rfl⟩) (by assumption) ?_
        try simp only [Act.put, List.setIfInBounds_toArray, List.set_cons_zero, List.set_cons_succ, List.getElem_toArray, List.getElem_cons_succ, List.getElem_cons_zero]
        refine wpAnyH_take (i := 12) (v := undef) rfl (by kernel_rfl) (by kernel_rfl) (by kernel_rfl) (fun _ _ _ h => h) (Or.inr ⟨by rfl, rfl⟩) (by assumption) ?_
        try simp only [Act.put, List.setIfInBounds_toArray, List.set_cons_zero, List.set_cons_succ, List.getElem_toArray, List.getElem_cons_succ, List.getElem_cons_zero]
        refine wpAnyH_take (i := 13) (v := undef) rfl (by kernel_rfl) (by kernel_rfl) (by kernel_rfl) (fun _ _ _ h => h) (Or.inr ⟨by rfl, rfl⟩) (by assumption) ?_
        try simp only [Act.put, List.setIfInBounds_toArray, List.set_cons_zero, List.set_cons_succ, List.getElem_toArray, List.getElem_cons_succ, List.getElem_cons_zero]
        refine wpAnyH_take (i := 14) (v := undef) rfl (by kernel_rfl) (by kernel_rfl) (by kernel_rfl) (fun _ _ _ h => h) (Or.inr ⟨by rfl, rfl⟩) (by assumption) ?_
        try simp only [Act.put, List.setIfInBounds_toArray, List.set_cons_zero, List.set_cons_succ, List.getElem_toArray, List.getElem_cons_succ, List.getElem_cons_zero]
        refine wpAnyH_take (i := 15) (v := undef) rfl (by kernel_rfl) (by kernel_rfl) (by kernel_rfl) (fun _ _ _ h => h) (Or.inr ⟨by rfl, rfl⟩) (by assumption) ?_
        try simp only [Act.put, List.setIfInBounds_toArray, List.set_cons_zero, List.set_cons_succ, List.getElem_toArray, List.getElem_cons_succ, List.getElem_cons_zero]
        refine wpAnyH_take (i := 16) (v := undef) rfl (by kernel_rfl) (by kernel_rfl) (by kernel_rfl) (fun _ _ _ h => h) (Or.inr ⟨by rfl, rfl⟩) (by assumption) ?_
        try simp only [Act.put, List.setIfInBounds_toArray, List.set_cons_zero, List.set_cons_succ, List.getElem_toArray, List.getElem_cons_succ, List.getElem_cons_zero]
        refine wpAnyH_take (i := 17) (v := undef) rfl (by kernel_rfl) (by kernel_rfl) (by kernel_rfl) (fun _ _ _ h => h) (Or.inr ⟨by rfl, rfl⟩) (by assumption) ?_
        try simp only [Act.put, List.setIfInBounds_toArray, List.set_cons_zero, List.set_cons_succ, List.getElem_toArray, List.getElem_cons_succ, List.getElem_cons_zero]
        refine wpAnyH_take (i := 18) (v := undef) rfl (by kernel_rfl) (by kernel_rfl) (by kernel_rfl) (fun _ _ _ h => h) (Or.inr ⟨by rfl, rfl⟩) (by assumption) ?_
        try simp only [Act.put, List.setIfInBounds_toArray, List.set_cons_zero, List.set_cons_succ, List.getElem_toArray, List.getElem_cons_succ, List.getElem_cons_zero]
        refine wpAnyH_take (i := 19) (v := undef) rfl (by kernel_rfl) (by kernel_rfl) (by kernel_rfl) (fun _ _ _ h => h) (Or.inr ⟨by rfl, rfl⟩) (by assumption) ?_
        try simp only [Act.put, List.setIfInBounds_toArray, List.set_cons_zero, List.set_cons_succ, List.getElem_toArray, List.getElem_cons_succ, List.getElem_cons_zero]
        refine' wpAnyH_take (i := 20) (v := _) rfl (by kernel_rfl) (by kernel_rfl) (by kernel_rfl) (fun _ _ _ h => h) (Or.inl ⟨by rfl, ?hy7⟩) (by assumption) ?rest7
        case hy7 => (intro w hSw; (try dsimp only at hSw); go_simp <;> with_reducible rfl)
        try simp only [Act.put, List.setIfInBounds_toArray, List.set_cons_zero, List.set_cons_succ, List.getElem_toArray, List.getElem_cons_succ, List.getElem_cons_zero]
        refine wpAnyH_done (by kernel_rfl) ?_ _
        refine NoPanic.normal ?_
        have c0 := b0.drew
        have c1 := b1.drew
        have cB := bB.drew
        have cX := bX.drew
        have HOW : Hid (W1.drew.ownsRow (w.heap.size + 1 + 1) 34 5 (.slice a M.length c) M.length (flat M)) := Hown.out
        have HB2 := hidP HB1.out.drew
        generalize W1.drew = W2 at *
        clear SE SK
        obtain ⟨m0, m1, m2⟩ := cB.row
        obtain ⟨x0, x1, x2, x3, x4⟩ := cX.item
        have th := cB.thaw 2
        have qB := cB.lt
        have qX := cX.lt
        have q0 := c0.lt
        have q1 := c1.lt
        have bx := Blk.new W2 34 #[.int .i64 l[n].off, .string l[n].key, .string l[n].text, .int .i64 l[n].who, .int .i64 l[n].time]
        have far0 : some w.heap.size ≠ (Value.slice a M.length c).ownBlock := owns_far HOW.out (by omega)
        have far1 : some (w.heap.size + 1) ≠ (Value.slice a M.length c).ownBlock := owns_far HOW.out (by omega)
        obtain ⟨v', w3, hr, hown3, hgrow, hat⟩ := append_items (w.heap.size + 1 + 1) (.slice a M.length c) M [l[n]] (some ⟨W2.heap.size, 0, none⟩) 1 (W2.alloc (.cells #[.int .i64 l[n].off, .string l[n].key, .string l[n].text, .int .i64 l[n].who, .int .i64 l[n].time] 34)) (by simp; omega) (owns_alloc HOW.out _) (.inr ⟨W2.heap.size, 0, rfl, by simp, fun j u hu => bx.cell (i := 0 + j) (by simpa [flat, It.cs] using hu)⟩) (by simp; omega)
        simp only [List.length_cons, List.length_nil, Nat.zero_add] at hown3 hr
        obtain ⟨a', c', rfl, _⟩ := owns_form hown3
        have sz2 : (W2.alloc (.cells #[.int .i64 l[n].off, .string l[n].key, .string l[n].text, .int .i64 l[n].who, .int .i64 l[n].time] 34)).heap.size = W2.heap.size + 1 := World.size_alloc _ _
        have farB : some B ≠ (Value.slice a' (M.length + 1) c').ownBlock := by
          rcases hat with e | e
          · rw [e]; exact hfar
          · rw [e, sz2]; intro h; have : B = W2.heap.size + 1 := Option.some.inj h; omega
        have e0 := (c0.alloc _).kept hgrow far0
        have e1 := (c1.alloc _).kept hgrow far1
        have eB := (cB.alloc _).kept hgrow hfar
        have B3 := hidP ((alloc0 HB2.out _).grown hgrow (alloc0 HB2.out _).size (fun k e => Nat.le_of_not_lt fun h => owns_far HOW.out (show k < w.heap.size + 1 + 1 by omega) e.symm))
        have Hown3 := hidP hown3
        obtain ⟨i0, i1, i2⟩ := eB.row
        have th3 := eB.thaw 2
        clear hgrow hat hown3 bx far0 far1
        go_wp2_with (at_builtin; refine wpList_append_is rfl _ _ _ rfl _ _ _ rfl rfl hr ?_)
        have zB : Blk _ B 26 #[.int .i64 start, .int .i64 next, .slice a' (M.length + 1) c'] := eB.setAt 2 (.slice a' (M.length + 1) c')
        have el : (M ++ [l[n]]).length = M.length + 1 := by simp
        refine ⟨⟨n + 1, by go_num, by omega, M ++ [l[n]], a', c', e0.other (by omega) _ _, e1.other (by omega) _ _, by rw [el]; exact zB, by rw [el]; exact owns_set Hown3.out farB, by rw [el]; exact farB, bl_set B3.out (by omega) _, by rw [el]; omega, ?_⟩, by simp [intOf]; omega⟩
        rw [List.append_assoc, List.singleton_append, ← packF_yes hlt HST.out]
        exact hpk.out
      have G : Hid (l[n].key.toList.isEmpty = false) := by show _ = _; simpa using hE
      have Gq : Hid ((l[n].key.toList == []) = false) := by show _ = _; simpa using hE
      cases hK : hasKey l[n].key.toList (l.drop (n + 1))
      · have HK := hidP hK
        have HST : Hid (staysB (IntKind.i64.wrap (next - 1)) length l[n] (l.drop (n + 1)) = true) := by show _ = _; simp [staysB, hK]
        clear hE hK
        refine wp_region_noPanic ?_
        refine wp_region_held_drew (S := fun w' => w'.cell? ⟨w.heap.size, 0, none⟩ = some (.int .i64 start) ∧ w'.cell? ⟨w.heap.size, 1, none⟩ = some (.int .i64 next) ∧ w'.cell? ⟨w.heap.size, 2, none⟩ = some (.slice (some ⟨b, o, none⟩) l.length cap) ∧ w'.cell? ⟨X, 0, none⟩ = some (.int .i64 l[n].off) ∧ w'.cell? ⟨X, 1, none⟩ = some (.string l[n].key)) (by kernel_rfl) ?_ (fun hH => ?_)
        · exact SE.out
        refine' wpAnyH_take (i := 0) (v := _) rfl (by kernel_rfl) (by kernel_rfl) (by kernel_rfl) (fun _ _ _ h => h) (Or.inl ⟨by rfl, ?hy8⟩) (by assumption) ?rest8
        case hy8 => (intro w hSw; (try dsimp only at hSw); go_simp <;> with_reducible rfl)
        try simp only [Act.put, List.setIfInBounds_toArray, List.set_cons_zero, List.set_cons_succ, List.getElem_toArray, List.getElem_cons_succ, List.getElem_cons_zero]
        refine' wpAnyH_take (i := 1) (v := _) rfl (by kernel_rfl) (by kernel_rfl) (by kernel_rfl) (fun _ _ _ h => h) (Or.inl ⟨by rfl, ?hy9⟩) (by assumption) ?rest9
        case hy9 => (intro w hSw; (try dsimp only at hSw); go_simp <;> with_reducible rfl)
        try simp only [Act.put, List.setIfInBounds_toArray, List.set_cons_zero, List.set_cons_succ, List.getElem_toArray, List.getElem_cons_succ, List.getElem_cons_zero]
        refine' wpAnyH_take (i := 2) (v := _) rfl (by kernel_rfl) (by kernel_rfl) (by kernel_rfl) (fun _ _ _ h => h) (Or.inl ⟨by rfl, ?hy10⟩) (by assumption) ?rest10
        case hy10 => (intro w hSw; (try dsimp only at hSw); go_simp <;> ((first | rw [G.out] | simp only [G.out] | skip) <;> with_reducible rfl))
        try simp only [Act.put, List.setIfInBounds_toArray, List.set_cons_zero, List.set_cons_succ, List.getElem_toArray, List.getElem_cons_succ, List.getElem_cons_zero]
        refine' wpAnyH_take (i := 3) (v := _) rfl (by kernel_rfl) (by kernel_rfl) (by kernel_rfl) (fun _ _ _ h => h) (Or.inl ⟨by rfl, ?hy11⟩) (by assumption) ?rest11
        case hy11 => (intro w hSw; (try dsimp only at hSw); go_simp <;> with_reducible rfl)
        try simp only [Act.put, List.setIfInBounds_toArray, List.set_cons_zero, List.set_cons_succ, List.getElem_toArray, List.getElem_cons_succ, List.getElem_cons_zero]
        refine' wpAnyH_take (i := 4) (v := _) rfl (by kernel_rfl) (by kernel_rfl) (by kernel_rfl) (fun _ _ _ h => h) (Or.inl ⟨by rfl, ?hy12⟩) (by assumption) ?rest12
        case hy12 => (intro w hSw; (try dsimp only at hSw); go_simp <;> with_reducible rfl)
        try simp only [Act.put, List.setIfInBounds_toArray, List.set_cons_zero, List.set_cons_succ, List.getElem_toArray, List.getElem_cons_succ, List.getElem_cons_zero]
        refine' wpAnyH_take (i := 5) (v := _) rfl (by kernel_rfl) (by kernel_rfl) (by kernel_rfl) (fun _ _ _ h => h) (Or.inl ⟨by rfl, ?hy13⟩) (by assumption) ?rest13
        case hy13 => (intro w hSw; (try dsimp only at hSw); go_simp <;> with_reducible rfl)
        try simp only [Act.put, List.setIfInBounds_toArray, List.set_cons_zero, List.set_cons_succ, List.getElem_toArray, List.getElem_cons_succ, List.getElem_cons_zero]
        refine wpAnyH_ready (rs := [6]) (by kernel_rfl) (by simp) (AllReadyH.cons rfl (fun K hK => ?_) AllReadyH.nil)
        simp only [List.getElem_toArray, List.getElem_cons_succ, List.getElem_cons_zero]
        go_simp
        (go_at_call 51; refine (behind_any start next n (some ⟨b, o, none⟩) cap l (by omega) hlt _ (.inr ⟨b, o, rfl, Nat.lt_of_lt_of_le hb HB1.out.drew.size, Hin.out.below hb HB1.out.drew⟩)).mono ?_; rw [HK.out]; rintro e w2 ⟨rfl, g2⟩)
        refine hK.out _ _ ?_ (fun hH => ?_)
        · exact SK w2 g2
        clear hK K
        try simp only [Act.put, List.setIfInBounds_toArray, List.set_cons_zero, List.set_cons_succ, List.getElem_toArray, List.getElem_cons_succ, List.getElem_cons_zero]
        refine' wpAnyH_take (i := 7) (v := _) rfl (by kernel_rfl) (by kernel_rfl) (by kernel_rfl) (fun _ _ _ h => h) (Or.inl ⟨by rfl, ?hy14⟩) (by assumption) ?rest14
        case hy14 => (intro w hSw; (try dsimp only at hSw); go_simp <;> with_reducible rfl)
        try simp only [Act.put, List.setIfInBounds_toArray, List.set_cons_zero, List.set_cons_succ, List.getElem_toArray, List.getElem_cons_succ, List.getElem_cons_zero]
        refine' wpAnyH_take (i := 8) (v := _) rfl (by kernel_rfl) (by kernel_rfl) (by kernel_rfl) (fun _ _ _ h => h) (Or.inl ⟨by rfl, ?hy15⟩) (by assumption) ?rest15
        case hy15 => (intro w hSw; (try dsimp only at hSw); go_simp <;> with_reducible rfl)
        try simp only [Act.put, List.setIfInBounds_toArray, List.set_cons_zero, List.set_cons_succ, List.getElem_toArray, List.getElem_cons_succ, List.getElem_cons_zero]
        refine' wpAnyH_take (i := 9) (v := _) rfl (by kernel_rfl) (by kernel_rfl) (by kernel_rfl) (fun _ _ _ h => h) (Or.inl ⟨by rfl, ?hy16⟩) (by assumption) ?rest16
        case hy16 => (intro w hSw; (try dsimp only at hSw); go_simp <;> with_reducible rfl)
        try simp only [Act.put, List.setIfInBounds_toArray, List.set_cons_zero, List.set_cons_succ, List.getElem_toArray, List.getElem_cons_succ, List.getElem_cons_zero]
        refine wpAnyH_take (i := 10) (v := undef) rfl (by kernel_rfl) (by kernel_rfl) (by kernel_rfl) (fun _ _ _ h => h) (Or.inr ⟨by rfl, rfl⟩) (by assumption) ?_
        try simp only [Act.put, List.setIfInBounds_toArray, List.set_cons_zero, List.set_cons_succ, List.getElem_toArray, List.getElem_cons_succ, List.getElem_cons_zero]
        refine wpAnyH_take (i := 11) (v := undef) rfl (by kernel_rfl) (by kernel_rfl) (by kernel_rfl) (fun _ _ _ h => h) (Or.inr ⟨by rfl, rfl⟩) (by assumption) ?_
        try simp only [Act.put, List.setIfInBounds_toArray, List.set_cons_zero, List.set_cons_succ, List.getElem_toArray, List.getElem_cons_succ, List.getElem_cons_zero]
        refine wpAnyH_take (i := 12) (v := undef) rfl (by kernel_rfl) (by kernel_rfl) (by kernel_rfl) (fun _ _ _ h => h) (Or.inr ⟨by rfl, rfl⟩) (by assumption) ?_
        try simp only [Act.put, List.setIfInBounds_toArray, List.set_cons_zero, List.set_cons_succ, List.getElem_toArray, List.getElem_cons_succ, List.getElem_cons_zero]
        refine wpAnyH_take (i := 13) (v := undef) rfl (by kernel_rfl) (by kernel_rfl) (by kernel_rfl) (fun _ _ _ h => h) (Or.inr ⟨by rfl, rfl⟩) (by assumption) ?_
        try simp only [Act.put, List.setIfInBounds_toArray, List.set_cons_zero, List.set_cons_succ, List.getElem_toArray, List.getElem_cons_succ, List.getElem_cons_zero]
        refine wpAnyH_take (i := 14) (v := undef) rfl (by kernel_rfl) (by kernel_rfl) (by kernel_rfl) (fun _ _ _ h => h) (Or.inr ⟨by rfl, rfl⟩) (by assumption) ?_
        try simp only [Act.put, List.setIfInBounds_toArray, List.set_cons_zero, List.set_cons_succ, List.getElem_toArray, List.getElem_cons_succ, List.getElem_cons_zero]
        refine wpAnyH_take (i := 15) (v := undef) rfl (by kernel_rfl) (by kernel_rfl) (by kernel_rfl) (fun _ _ _ h => h) (Or.inr ⟨by rfl, rfl⟩) (by assumption) ?_
        try simp only [Act.put, List.setIfInBounds_toArray, List.set_cons_zero, List.set_cons_succ, List.getElem_toArray, List.getElem_cons_succ, List.getElem_cons_zero]
        refine wpAnyH_take (i := 16) (v := undef) rfl (by kernel_rfl) (by kernel_rfl) (by kernel_rfl) (fun _ _ _ h => h) (Or.inr ⟨by rfl, rfl⟩) (by assumption) ?_
        try simp only [Act.put, List.setIfInBounds_toArray, List.set_cons_zero, List.set_cons_succ, List.getElem_toArray, List.getElem_cons_succ, List.getElem_cons_zero]
        refine wpAnyH_take (i := 17) (v := undef) rfl (by kernel_rfl) (by kernel_rfl) (by kernel_rfl) (fun _ _ _ h => h) (Or.inr ⟨by rfl, rfl⟩) (by assumption) ?_
        try simp only [Act.put, List.setIfInBounds_toArray, List.set_cons_zero, List.set_cons_succ, List.getElem_toArray, List.getElem_cons_succ, List.getElem_cons_zero]
        refine wpAnyH_take (i := 18) (v := undef) rfl (by kernel_rfl) (by kernel_rfl) (by kernel_rfl) (fun _ _ _ h => h) (Or.inr ⟨by rfl, rfl⟩) (by assumption) ?_
        try simp only [Act.put, List.setIfInBounds_toArray, List.set_cons_zero, List.set_cons_succ, List.getElem_toArray, List.getElem_cons_succ, List.getElem_cons_zero]
        refine wpAnyH_take (i := 19) (v := undef) rfl (by kernel_rfl) (by kernel_rfl) (by kernel_rfl) (fun _ _ _ h => h) (Or.inr ⟨by rfl, rfl⟩) (by assumption) ?_
        try simp only [Act.put, List.setIfInBounds_toArray, List.set_cons_zero, List.set_cons_succ, List.getElem_toArray, List.getElem_cons_succ, List.getElem_cons_zero]
        refine' wpAnyH_take (i := 20) (v := _) rfl (by kernel_rfl) (by kernel_rfl) (by kernel_rfl) (fun _ _ _ h => h) (Or.inl ⟨by rfl, ?hy17⟩) (by assumption) ?rest17
        case hy17 => (intro w hSw; (try dsimp only at hSw); go_simp <;> with_reducible rfl)
        try simp only [Act.put, List.setIfInBounds_toArray, List.set_cons_zero, List.set_cons_succ, List.getElem_toArray, List.getElem_cons_succ, List.getElem_cons_zero]
        refine wpAnyH_done (by kernel_rfl) ?_ _
        refine NoPanic.normal ?_
        have c0 := b0.drew.below g2 b0.drew.lt
        have c1 := b1.drew.below g2 b1.drew.lt
        have cB := bB.drew.below g2 bB.drew.lt
        have cX := bX.drew.below g2 bX.drew.lt
        have HOW : Hid (w2.ownsRow (w.heap.size + 1 + 1) 34 5 (.slice a M.length c) M.length (flat M)) := owns_below (show W1.drew.ownsRow _ _ _ _ _ _ from Hown.out) g2
        have HB2 := hidP (via0 g2 HB1.out.drew)
        generalize w2 = W2 at *
        clear SE SK
        obtain ⟨m0, m1, m2⟩ := cB.row
        obtain ⟨x0, x1, x2, x3, x4⟩ := cX.item
        have th := cB.thaw 2
        have qB := cB.lt
        have qX := cX.lt
        have q0 := c0.lt
        have q1 := c1.lt
        have bx := Blk.new W2 34 #[.int .i64 l[n].off, .string l[n].key, .string l[n].text, .int .i64 l[n].who, .int .i64 l[n].time]
        have far0 : some w.heap.size ≠ (Value.slice a M.length c).ownBlock := owns_far HOW.out (by omega)
        have far1 : some (w.heap.size + 1) ≠ (Value.slice a M.length c).ownBlock := owns_far HOW.out (by omega)
        obtain ⟨v', w3, hr, hown3, hgrow, hat⟩ := append_items (w.heap.size + 1 + 1) (.slice a M.length c) M [l[n]] (some ⟨W2.heap.size, 0, none⟩) 1 (W2.alloc (.cells #[.int .i64 l[n].off, .string l[n].key, .string l[n].text, .int .i64 l[n].who, .int .i64 l[n].time] 34)) (by simp; omega) (owns_alloc HOW.out _) (.inr ⟨W2.heap.size, 0, rfl, by simp, fun j u hu => bx.cell (i := 0 + j) (by simpa [flat, It.cs] using hu)⟩) (by simp; omega)
        simp only [List.length_cons, List.length_nil, Nat.zero_add] at hown3 hr
        obtain ⟨a', c', rfl, _⟩ := owns_form hown3
        have sz2 : (W2.alloc (.cells #[.int .i64 l[n].off, .string l[n].key, .string l[n].text, .int .i64 l[n].who, .int .i64 l[n].time] 34)).heap.size = W2.heap.size + 1 := World.size_alloc _ _
        have farB : some B ≠ (Value.slice a' (M.length + 1) c').ownBlock := by
          rcases hat with e | e
          · rw [e]; exact hfar
          · rw [e, sz2]; intro h; have : B = W2.heap.size + 1 := Option.some.inj h; omega
        have e0 := (c0.alloc _).kept hgrow far0
        have e1 := (c1.alloc _).kept hgrow far1
        have eB := (cB.alloc _).kept hgrow hfar
        have B3 := hidP ((alloc0 HB2.out _).grown hgrow (alloc0 HB2.out _).size (fun k e => Nat.le_of_not_lt fun h => owns_far HOW.out (show k < w.heap.size + 1 + 1 by omega) e.symm))
        have Hown3 := hidP hown3
        obtain ⟨i0, i1, i2⟩ := eB.row
        have th3 := eB.thaw 2
        clear hgrow hat hown3 bx far0 far1
        go_wp2_with (at_builtin; refine wpList_append_is rfl _ _ _ rfl _ _ _ rfl rfl hr ?_)
        have zB : Blk _ B 26 #[.int .i64 start, .int .i64 next, .slice a' (M.length + 1) c'] := eB.setAt 2 (.slice a' (M.length + 1) c')
        have el : (M ++ [l[n]]).length = M.length + 1 := by simp
        refine ⟨⟨n + 1, by go_num, by omega, M ++ [l[n]], a', c', e0.other (by omega) _ _, e1.other (by omega) _ _, by rw [el]; exact zB, by rw [el]; exact owns_set Hown3.out farB, by rw [el]; exact farB, bl_set B3.out (by omega) _, by rw [el]; omega, ?_⟩, by simp [intOf]; omega⟩
        rw [List.append_assoc, List.singleton_append, ← packF_yes hlt HST.out]
        exact hpk.out
      have HK := hidP hK
      cases hV : (dv l[n].off length == dv (IntKind.i64.wrap (next - 1)) length)
      · have HV : Hid ((IntKind.i64.wrap (l[n].off.tdiv length) == IntKind.i64.wrap ((IntKind.i64.wrap (next - 1)).tdiv length)) = false) := by show _ = _; rw [wrapq (l[n].off.tdiv length), wrapq ((IntKind.i64.wrap (next - 1)).tdiv length)]; exact hV
        have HST : Hid (staysB (IntKind.i64.wrap (next - 1)) length l[n] (l.drop (n + 1)) = false) := by show _ = _; simp only [staysB, hK, hV, Gq.out]; rfl
        clear hE hK hV
        refine wp_region_noPanic ?_
        refine wp_region_held_drew (S := fun w' => w'.cell? ⟨w.heap.size, 0, none⟩ = some (.int .i64 start) ∧ w'.cell? ⟨w.heap.size, 1, none⟩ = some (.int .i64 next) ∧ w'.cell? ⟨w.heap.size, 2, none⟩ = some (.slice (some ⟨b, o, none⟩) l.length cap) ∧ w'.cell? ⟨X, 0, none⟩ = some (.int .i64 l[n].off) ∧ w'.cell? ⟨X, 1, none⟩ = some (.string l[n].key)) (by kernel_rfl) ?_ (fun hH => ?_)
        · exact SE.out
        refine' wpAnyH_take (i := 0) (v := _) rfl (by kernel_rfl) (by kernel_rfl) (by kernel_rfl) (fun _ _ _ h => h) (Or.inl ⟨by rfl, ?hy18⟩) (by assumption) ?rest18
        case hy18 => (intro w hSw; (try dsimp only at hSw); go_simp <;> with_reducible rfl)
        try simp only [Act.put, List.setIfInBounds_toArray, List.set_cons_zero, List.set_cons_succ, List.getElem_toArray, List.getElem_cons_succ, List.getElem_cons_zero]
        refine' wpAnyH_take (i := 1) (v := _) rfl (by kernel_rfl) (by kernel_rfl) (by kernel_rfl) (fun _ _ _ h => h) (Or.inl ⟨by rfl, ?hy19⟩) (by assumption) ?rest19
        case hy19 => (intro w hSw; (try dsimp only at hSw); go_simp <;> with_reducible rfl)
        try simp only [Act.put, List.setIfInBounds_toArray, List.set_cons_zero, List.set_cons_succ, List.getElem_toArray, List.getElem_cons_succ, List.getElem_cons_zero]
        refine' wpAnyH_take (i := 2) (v := _) rfl (by kernel_rfl) (by kernel_rfl) (by kernel_rfl) (fun _ _ _ h => h) (Or.inl ⟨by rfl, ?hy20⟩) (by assumption) ?rest20
        case hy20 => (intro w hSw; (try dsimp only at hSw); go_simp <;> ((first | rw [G.out] | simp only [G.out] | skip) <;> with_reducible rfl))
        try simp only [Act.put, List.setIfInBounds_toArray, List.set_cons_zero, List.set_cons_succ, List.getElem_toArray, List.getElem_cons_succ, List.getElem_cons_zero]
        refine' wpAnyH_take (i := 3) (v := _) rfl (by kernel_rfl) (by kernel_rfl) (by kernel_rfl) (fun _ _ _ h => h) (Or.inl ⟨by rfl, ?hy21⟩) (by assumption) ?rest21
        case hy21 => (intro w hSw; (try dsimp only at hSw); go_simp <;> with_reducible rfl)
        try simp only [Act.put, List.setIfInBounds_toArray, List.set_cons_zero, List.set_cons_succ, List.getElem_toArray, List.getElem_cons_succ, List.getElem_cons_zero]
        refine' wpAnyH_take (i := 4) (v := _) rfl (by kernel_rfl) (by kernel_rfl) (by kernel_rfl) (fun _ _ _ h => h) (Or.inl ⟨by rfl, ?hy22⟩) (by assumption) ?rest22
        case hy22 => (intro w hSw; (try dsimp only at hSw); go_simp <;> with_reducible rfl)
        try simp only [Act.put, List.setIfInBounds_toArray, List.set_cons_zero, List.set_cons_succ, List.getElem_toArray, List.getElem_cons_succ, List.getElem_cons_zero]
        refine' wpAnyH_take (i := 5) (v := _) rfl (by kernel_rfl) (by kernel_rfl) (by kernel_rfl) (fun _ _ _ h => h) (Or.inl ⟨by rfl, ?hy23⟩) (by assumption) ?rest23
        case hy23 => (intro w hSw; (try dsimp only at hSw); go_simp <;> with_reducible rfl)
        try simp only [Act.put, List.setIfInBounds_toArray, List.set_cons_zero, List.set_cons_succ, List.getElem_toArray, List.getElem_cons_succ, List.getElem_cons_zero]
        refine wpAnyH_ready (rs := [6]) (by kernel_rfl) (by simp) (AllReadyH.cons rfl (fun K hK => ?_) AllReadyH.nil)
        simp only [List.getElem_toArray, List.getElem_cons_succ, List.getElem_cons_zero]
        go_simp
        (go_at_call 51; refine (behind_any start next n (some ⟨b, o, none⟩) cap l (by omega) hlt _ (.inr ⟨b, o, rfl, Nat.lt_of_lt_of_le hb HB1.out.drew.size, Hin.out.below hb HB1.out.drew⟩)).mono ?_; rw [HK.out]; rintro e w2 ⟨rfl, g2⟩)
        refine hK.out _ _ ?_ (fun hH => ?_)
        · exact SK w2 g2
        clear hK K
        try simp only [Act.put, List.setIfInBounds_toArray, List.set_cons_zero, List.set_cons_succ, List.getElem_toArray, List.getElem_cons_succ, List.getElem_cons_zero]
        refine' wpAnyH_take (i := 7) (v := _) rfl (by kernel_rfl) (by kernel_rfl) (by kernel_rfl) (fun _ _ _ h => h) (Or.inl ⟨by rfl, ?hy24⟩) (by assumption) ?rest24
        case hy24 => (intro w hSw; (try dsimp only at hSw); go_simp <;> with_reducible rfl)
        try simp only [Act.put, List.setIfInBounds_toArray, List.set_cons_zero, List.set_cons_succ, List.getElem_toArray, List.getElem_cons_succ, List.getElem_cons_zero]
        refine' wpAnyH_take (i := 8) (v := _) rfl (by kernel_rfl) (by kernel_rfl) (by kernel_rfl) (fun _ _ _ h => h) (Or.inl ⟨by rfl, ?hy25⟩) (by assumption) ?rest25
        case hy25 => (intro w hSw; (try dsimp only at hSw); go_simp <;> with_reducible rfl)
        try simp only [Act.put, List.setIfInBounds_toArray, List.set_cons_zero, List.set_cons_succ, List.getElem_toArray, List.getElem_cons_succ, List.getElem_cons_zero]
        refine' wpAnyH_take (i := 9) (v := _) rfl (by kernel_rfl) (by kernel_rfl) (by kernel_rfl) (fun _ _ _ h => h) (Or.inl ⟨by rfl, ?hy26⟩) (by assumption) ?rest26
        case hy26 => (intro w hSw; (try dsimp only at hSw); go_simp <;> with_reducible rfl)
        try simp only [Act.put, List.setIfInBounds_toArray, List.set_cons_zero, List.set_cons_succ, List.getElem_toArray, List.getElem_cons_succ, List.getElem_cons_zero]
        refine' wpAnyH_take (i := 10) (v := _) rfl (by kernel_rfl) (by kernel_rfl) (by kernel_rfl) (fun _ _ _ h => h) (Or.inl ⟨by rfl, ?hy27⟩) (by assumption) ?rest27
        case hy27 => (intro w hSw; (try dsimp only at hSw); go_simp <;> with_reducible rfl)
        try simp only [Act.put, List.setIfInBounds_toArray, List.set_cons_zero, List.set_cons_succ, List.getElem_toArray, List.getElem_cons_succ, List.getElem_cons_zero]
        refine' wpAnyH_take (i := 11) (v := _) rfl (by kernel_rfl) (by kernel_rfl) (by kernel_rfl) (fun _ _ _ h => h) (Or.inl ⟨by rfl, ?hy28⟩) (by assumption) ?rest28
        case hy28 => (intro w hSw; (try dsimp only at hSw); go_simp <;> with_reducible rfl)
        try simp only [Act.put, List.setIfInBounds_toArray, List.set_cons_zero, List.set_cons_succ, List.getElem_toArray, List.getElem_cons_succ, List.getElem_cons_zero]
        refine' wpAnyH_take (i := 12) (v := _) rfl (by kernel_rfl) (by kernel_rfl) (by kernel_rfl) (fun _ _ _ h => h) (Or.inl ⟨by rfl, ?hy29⟩) (by assumption) ?rest29
        case hy29 => (intro w hSw; (try dsimp only at hSw); go_simp <;> with_reducible rfl)
        try simp only [Act.put, List.setIfInBounds_toArray, List.set_cons_zero, List.set_cons_succ, List.getElem_toArray, List.getElem_cons_succ, List.getElem_cons_zero]
        refine' wpAnyH_take (i := 13) (v := _) rfl (by kernel_rfl) (by kernel_rfl) (by kernel_rfl) (fun _ _ _ h => h) (Or.inl ⟨by rfl, ?hy30⟩) (by assumption) ?rest30
        case hy30 => (intro w hSw; (try dsimp only at hSw); go_simp <;> with_reducible rfl)
        try simp only [Act.put, List.setIfInBounds_toArray, List.set_cons_zero, List.set_cons_succ, List.getElem_toArray, List.getElem_cons_succ, List.getElem_cons_zero]
        refine' wpAnyH_take (i := 14) (v := _) rfl (by kernel_rfl) (by kernel_rfl) (by kernel_rfl) (fun _ _ _ h => h) (Or.inl ⟨by rfl, ?hy31⟩) (by assumption) ?rest31
        case hy31 => (intro w hSw; (try dsimp only at hSw); go_simp <;> with_reducible rfl)
        try simp only [Act.put, List.setIfInBounds_toArray, List.set_cons_zero, List.set_cons_succ, List.getElem_toArray, List.getElem_cons_succ, List.getElem_cons_zero]
        refine' wpAnyH_take (i := 15) (v := _) rfl (by kernel_rfl) (by kernel_rfl) (by kernel_rfl) (fun _ _ _ h => h) (Or.inl ⟨by rfl, ?hy32⟩) (by assumption) ?rest32
        case hy32 => (intro w hSw; (try dsimp only at hSw); go_simp <;> with_reducible rfl)
        try simp only [Act.put, List.setIfInBounds_toArray, List.set_cons_zero, List.set_cons_succ, List.getElem_toArray, List.getElem_cons_succ, List.getElem_cons_zero]
        refine' wpAnyH_take (i := 16) (v := _) rfl (by kernel_rfl) (by kernel_rfl) (by kernel_rfl) (fun _ _ _ h => h) (Or.inl ⟨by rfl, ?hy33⟩) (by assumption) ?rest33
        case hy33 => (intro w hSw; (try dsimp only at hSw); go_simp <;> with_reducible rfl)
        try simp only [Act.put, List.setIfInBounds_toArray, List.set_cons_zero, List.set_cons_succ, List.getElem_toArray, List.getElem_cons_succ, List.getElem_cons_zero]
        refine' wpAnyH_take (i := 17) (v := _) rfl (by kernel_rfl) (by kernel_rfl) (by kernel_rfl) (fun _ _ _ h => h) (Or.inl ⟨by rfl, ?hy34⟩) (by assumption) ?rest34
        case hy34 => (intro w hSw; (try dsimp only at hSw); go_simp <;> with_reducible rfl)
        try simp only [Act.put, List.setIfInBounds_toArray, List.set_cons_zero, List.set_cons_succ, List.getElem_toArray, List.getElem_cons_succ, List.getElem_cons_zero]
        refine' wpAnyH_take (i := 18) (v := _) rfl (by kernel_rfl) (by kernel_rfl) (by kernel_rfl) (fun _ _ _ h => h) (Or.inl ⟨by rfl, ?hy35⟩) (by assumption) ?rest35
        case hy35 => (intro w hSw; (try dsimp only at hSw); go_simp <;> with_reducible rfl)
        try simp only [Act.put, List.setIfInBounds_toArray, List.set_cons_zero, List.set_cons_succ, List.getElem_toArray, List.getElem_cons_succ, List.getElem_cons_zero]
        refine' wpAnyH_take (i := 19) (v := _) rfl (by kernel_rfl) (by kernel_rfl) (by kernel_rfl) (fun _ _ _ h => h) (Or.inl ⟨by rfl, ?hy36⟩) (by assumption) ?rest36
        case hy36 => (intro w hSw; (try dsimp only at hSw); go_simp <;> ((first | rw [HV.out] | simp only [HV.out] | skip) <;> with_reducible rfl))
        try simp only [Act.put, List.setIfInBounds_toArray, List.set_cons_zero, List.set_cons_succ, List.getElem_toArray, List.getElem_cons_succ, List.getElem_cons_zero]
        refine' wpAnyH_take (i := 20) (v := _) rfl (by kernel_rfl) (by kernel_rfl) (by kernel_rfl) (fun _ _ _ h => h) (Or.inl ⟨by rfl, ?hy37⟩) (by assumption) ?rest37
        case hy37 => (intro w hSw; (try dsimp only at hSw); go_simp <;> with_reducible rfl)
        try simp only [Act.put, List.setIfInBounds_toArray, List.set_cons_zero, List.set_cons_succ, List.getElem_toArray, List.getElem_cons_succ, List.getElem_cons_zero]
        refine wpAnyH_done (by kernel_rfl) ?_ _
        refine NoPanic.normal ?_
        have c0 := b0.drew.below g2 b0.drew.lt
        have c1 := b1.drew.below g2 b1.drew.lt
        have cB := bB.drew.below g2 bB.drew.lt
        have cX := bX.drew.below g2 bX.drew.lt
        have HOW : Hid (w2.ownsRow (w.heap.size + 1 + 1) 34 5 (.slice a M.length c) M.length (flat M)) := owns_below (show W1.drew.ownsRow _ _ _ _ _ _ from Hown.out) g2
        have HB2 := hidP (via0 g2 HB1.out.drew)
        generalize w2 = W2 at *
        clear SE SK
        go_wp2
        refine ⟨⟨n + 1, by go_num, by omega, M, a, c, c0, c1, cB, HOW.out, hfar, HB2.out, by omega, ?_⟩, by simp [intOf]; omega⟩
        rw [← packF_no hlt HST.out]
        exact hpk.out
      · have HV : Hid ((IntKind.i64.wrap (l[n].off.tdiv length) == IntKind.i64.wrap ((IntKind.i64.wrap (next - 1)).tdiv length)) = true) := by show _ = _; rw [wrapq (l[n].off.tdiv length), wrapq ((IntKind.i64.wrap (next - 1)).tdiv length)]; exact hV
        have HST : Hid (staysB (IntKind.i64.wrap (next - 1)) length l[n] (l.drop (n + 1)) = true) := by show _ = _; simp only [staysB, hK, hV, Gq.out]; rfl
        clear hE hK hV
        refine wp_region_noPanic ?_
        refine wp_region_held_drew (S := fun w' => w'.cell? ⟨w.heap.size, 0, none⟩ = some (.int .i64 start) ∧ w'.cell? ⟨w.heap.size, 1, none⟩ = some (.int .i64 next) ∧ w'.cell? ⟨w.heap.size, 2, none⟩ = some (.slice (some ⟨b, o, none⟩) l.length cap) ∧ w'.cell? ⟨X, 0, none⟩ = some (.int .i64 l[n].off) ∧ w'.cell? ⟨X, 1, none⟩ = some (.string l[n].key)) (by kernel_rfl) ?_ (fun hH => ?_)
        · exact SE.out
        refine' wpAnyH_take (i := 0) (v := _) rfl (by kernel_rfl) (by kernel_rfl) (by kernel_rfl) (fun _ _ _ h => h) (Or.inl ⟨by rfl, ?hy38⟩) (by assumption) ?rest38
        case hy38 => (intro w hSw; (try dsimp only at hSw); go_simp <;> with_reducible rfl)
        try simp only [Act.put, List.setIfInBounds_toArray, List.set_cons_zero, List.set_cons_succ, List.getElem_toArray, List.getElem_cons_succ, List.getElem_cons_zero]
        refine' wpAnyH_take (i := 1) (v := _) rfl (by kernel_rfl) (by kernel_rfl) (by kernel_rfl) (fun _ _ _ h => h) (Or.inl ⟨by rfl, ?hy39⟩) (by assumption) ?rest39
        case hy39 => (intro w hSw; (try dsimp only at hSw); go_simp <;> with_reducible rfl)
        try simp only [Act.put, List.setIfInBounds_toArray, List.set_cons_zero, List.set_cons_succ, List.getElem_toArray, List.getElem_cons_succ, List.getElem_cons_zero]
        refine' wpAnyH_take (i := 2) (v := _) rfl (by kernel_rfl) (by kernel_rfl) (by kernel_rfl) (fun _ _ _ h => h) (Or.inl ⟨by rfl, ?hy40⟩) (by assumption) ?rest40
        case hy40 => (intro w hSw; (try dsimp only at hSw); go_simp <;> ((first | rw [G.out] | simp only [G.out] | skip) <;> with_reducible rfl))
        try simp only [Act.put, List.setIfInBounds_toArray, List.set_cons_zero, List.set_cons_succ, List.getElem_toArray, List.getElem_cons_succ, List.getElem_cons_zero]
        refine' wpAnyH_take (i := 3) (v := _) rfl (by kernel_rfl) (by kernel_rfl) (by kernel_rfl) (fun _ _ _ h => h) (Or.inl ⟨by rfl, ?hy41⟩) (by assumption) ?rest41
        case hy41 => (intro w hSw; (try dsimp only at hSw); go_simp <;> with_reducible rfl)
        try simp only [Act.put, List.setIfInBounds_toArray, List.set_cons_zero, List.set_cons_succ, List.getElem_toArray, List.getElem_cons_succ, List.getElem_cons_zero]
        refine' wpAnyH_take (i := 4) (v := _) rfl (by kernel_rfl) (by kernel_rfl) (by kernel_rfl) (fun _ _ _ h => h) (Or.inl ⟨by rfl, ?hy42⟩) (by assumption) ?rest42
        case hy42 => (intro w hSw; (try dsimp only at hSw); go_simp <;> with_reducible rfl)
        try simp only [Act.put, List.setIfInBounds_toArray, List.set_cons_zero, List.set_cons_succ, List.getElem_toArray, List.getElem_cons_succ, List.getElem_cons_zero]
        refine' wpAnyH_take (i := 5) (v := _) rfl (by kernel_rfl) (by kernel_rfl) (by kernel_rfl) (fun _ _ _ h => h) (Or.inl ⟨by rfl, ?hy43⟩) (by assumption) ?rest43
        case hy43 => (intro w hSw; (try dsimp only at hSw); go_simp <;> with_reducible rfl)
        try simp only [Act.put, List.setIfInBounds_toArray, List.set_cons_zero, List.set_cons_succ, List.getElem_toArray, List.getElem_cons_succ, List.getElem_cons_zero]
        refine wpAnyH_ready (rs := [6]) (by kernel_rfl) (by simp) (AllReadyH.cons rfl (fun K hK => ?_) AllReadyH.nil)
        simp only [List.getElem_toArray, List.getElem_cons_succ, List.getElem_cons_zero]
        go_simp
        (go_at_call 51; refine (behind_any start next n (some ⟨b, o, none⟩) cap l (by omega) hlt _ (.inr ⟨b, o, rfl, Nat.lt_of_lt_of_le hb HB1.out.drew.size, Hin.out.below hb HB1.out.drew⟩)).mono ?_; rw [HK.out]; rintro e w2 ⟨rfl, g2⟩)
        refine hK.out _ _ ?_ (fun hH => ?_)
        · exact SK w2 g2
        clear hK K
        try simp only [Act.put, List.setIfInBounds_toArray, List.set_cons_zero, List.set_cons_succ, List.getElem_toArray, List.getElem_cons_succ, List.getElem_cons_zero]
        refine' wpAnyH_take (i := 7) (v := _) rfl (by kernel_rfl) (by kernel_rfl) (by kernel_rfl) (fun _ _ _ h => h) (Or.inl ⟨by rfl, ?hy44⟩) (by assumption) ?rest44
        case hy44 => (intro w hSw; (try dsimp only at hSw); go_simp <;> with_reducible rfl)
        try simp only [Act.put, List.setIfInBounds_toArray, List.set_cons_zero, List.set_cons_succ, List.getElem_toArray, List.getElem_cons_succ, List.getElem_cons_zero]
        refine' wpAnyH_take (i := 8) (v := _) rfl (by kernel_rfl) (by kernel_rfl) (by kernel_rfl) (fun _ _ _ h => h) (Or.inl ⟨by rfl, ?hy45⟩) (by assumption) ?rest45
        case hy45 => (intro w hSw; (try dsimp only at hSw); go_simp <;> with_reducible rfl)
        try simp only [Act.put, List.setIfInBounds_toArray, List.set_cons_zero, List.set_cons_succ, List.getElem_toArray, List.getElem_cons_succ, List.getElem_cons_zero]
        refine' wpAnyH_take (i := 9) (v := _) rfl (by kernel_rfl) (by kernel_rfl) (by kernel_rfl) (fun _ _ _ h => h) (Or.inl ⟨by rfl, ?hy46⟩) (by assumption) ?rest46
        case hy46 => (intro w hSw; (try dsimp only at hSw); go_simp <;> with_reducible rfl)
        try simp only [Act.put, List.setIfInBounds_toArray, List.set_cons_zero, List.set_cons_succ, List.getElem_toArray, List.getElem_cons_succ, List.getElem_cons_zero]
        refine' wpAnyH_take (i := 10) (v := _) rfl (by kernel_rfl) (by kernel_rfl) (by kernel_rfl) (fun _ _ _ h => h) (Or.inl ⟨by rfl, ?hy47⟩) (by assumption) ?rest47
        case hy47 => (intro w hSw; (try dsimp only at hSw); go_simp <;> with_reducible rfl)
        try simp only [Act.put, List.setIfInBounds_toArray, List.set_cons_zero, List.set_cons_succ, List.getElem_toArray, List.getElem_cons_succ, List.getElem_cons_zero]
        refine' wpAnyH_take (i := 11) (v := _) rfl (by kernel_rfl) (by kernel_rfl) (by kernel_rfl) (fun _ _ _ h => h) (Or.inl ⟨by rfl, ?hy48⟩) (by assumption) ?rest48
        case hy48 => (intro w hSw; (try dsimp only at hSw); go_simp <;> with_reducible rfl)
        try simp only [Act.put, List.setIfInBounds_toArray, List.set_cons_zero, List.set_cons_succ, List.getElem_toArray, List.getElem_cons_succ, List.getElem_cons_zero]
        refine' wpAnyH_take (i := 12) (v := _) rfl (by kernel_rfl) (by kernel_rfl) (by kernel_rfl) (fun _ _ _ h => h) (Or.inl ⟨by rfl, ?hy49⟩) (by assumption) ?rest49
        case hy49 => (intro w hSw; (try dsimp only at hSw); go_simp <;> with_reducible rfl)
        try simp only [Act.put, List.setIfInBounds_toArray, List.set_cons_zero, List.set_cons_succ, List.getElem_toArray, List.getElem_cons_succ, List.getElem_cons_zero]
        refine' wpAnyH_take (i := 13) (v := _) rfl (by kernel_rfl) (by kernel_rfl) (by kernel_rfl) (fun _ _ _ h => h) (Or.inl ⟨by rfl, ?hy50⟩) (by assumption) ?rest50
        case hy50 => (intro w hSw; (try dsimp only at hSw); go_simp <;> with_reducible rfl)
        try simp only [Act.put, List.setIfInBounds_toArray, List.set_cons_zero, List.set_cons_succ, List.getElem_toArray, List.getElem_cons_succ, List.getElem_cons_zero]
        refine' wpAnyH_take (i := 14) (v := _) rfl (by kernel_rfl) (by kernel_rfl) (by kernel_rfl) (fun _ _ _ h => h) (Or.inl ⟨by rfl, ?hy51⟩) (by assumption) ?rest51
        case hy51 => (intro w hSw; (try dsimp only at hSw); go_simp <;> with_reducible rfl)
        try simp only [Act.put, List.setIfInBounds_toArray, List.set_cons_zero, List.set_cons_succ, List.getElem_toArray, List.getElem_cons_succ, List.getElem_cons_zero]
        refine' wpAnyH_take (i := 15) (v := _) rfl (by kernel_rfl) (by kernel_rfl) (by kernel_rfl) (fun _ _ _ h => h) (Or.inl ⟨by rfl, ?hy52⟩) (by assumption) ?rest52
        case hy52 => (intro w hSw; (try dsimp only at hSw); go_simp <;> with_reducible rfl)
        try simp only [Act.put, List.setIfInBounds_toArray, List.set_cons_zero, List.set_cons_succ, List.getElem_toArray, List.getElem_cons_succ, List.getElem_cons_zero]
        refine' wpAnyH_take (i := 16) (v := _) rfl (by kernel_rfl) (by kernel_rfl) (by kernel_rfl) (fun _ _ _ h => h) (Or.inl ⟨by rfl, ?hy53⟩) (by assumption) ?rest53
        case hy53 => (intro w hSw; (try dsimp only at hSw); go_simp <;> with_reducible rfl)
        try simp only [Act.put, List.setIfInBounds_toArray, List.set_cons_zero, List.set_cons_succ, List.getElem_toArray, List.getElem_cons_succ, List.getElem_cons_zero]
        refine' wpAnyH_take (i := 17) (v := _) rfl (by kernel_rfl) (by kernel_rfl) (by kernel_rfl) (fun _ _ _ h => h) (Or.inl ⟨by rfl, ?hy54⟩) (by assumption) ?rest54
        case hy54 => (intro w hSw; (try dsimp only at hSw); go_simp <;> with_reducible rfl)
        try simp only [Act.put, List.setIfInBounds_toArray, List.set_cons_zero, List.set_cons_succ, List.getElem_toArray, List.getElem_cons_succ, List.getElem_cons_zero]
        refine' wpAnyH_take (i := 18) (v := _) rfl (by kernel_rfl) (by kernel_rfl) (by kernel_rfl) (fun _ _ _ h => h) (Or.inl ⟨by rfl, ?hy55⟩) (by assumption) ?rest55
        case hy55 => (intro w hSw; (try dsimp only at hSw); go_simp <;> with_reducible rfl)
        try simp only [Act.put, List.setIfInBounds_toArray, List.set_cons_zero, List.set_cons_succ, List.getElem_toArray, List.getElem_cons_succ, List.getElem_cons_zero]
        refine' wpAnyH_take (i := 19) (v := _) rfl (by kernel_rfl) (by kernel_rfl) (by kernel_rfl) (fun _ _ _ h => h) (Or.inl ⟨by rfl, ?hy56⟩) (by assumption) ?rest56
        case hy56 => (intro w hSw; (try dsimp only at hSw); go_simp <;> ((first | rw [HV.out] | simp only [HV.out] | skip) <;> with_reducible rfl))
        try simp only [Act.put, List.setIfInBounds_toArray, List.set_cons_zero, List.set_cons_succ, List.getElem_toArray, List.getElem_cons_succ, List.getElem_cons_zero]
        refine' wpAnyH_take (i := 20) (v := _) rfl (by kernel_rfl) (by kernel_rfl) (by kernel_rfl) (fun _ _ _ h => h) (Or.inl ⟨by rfl, ?hy57⟩) (by assumption) ?rest57
        case hy57 => (intro w hSw; (try dsimp only at hSw); go_simp <;> with_reducible rfl)
        try simp only [Act.put, List.setIfInBounds_toArray, List.set_cons_zero, List.set_cons_succ, List.getElem_toArray, List.getElem_cons_succ, List.getElem_cons_zero]
        refine wpAnyH_done (by kernel_rfl) ?_ _
        refine NoPanic.normal ?_
        have c0 := b0.drew.below g2 b0.drew.lt
        have c1 := b1.drew.below g2 b1.drew.lt
        have cB := bB.drew.below g2 bB.drew.lt
        have cX := bX.drew.below g2 bX.drew.lt
        have HOW : Hid (w2.ownsRow (w.heap.size + 1 + 1) 34 5 (.slice a M.length c) M.length (flat M)) := owns_below (show W1.drew.ownsRow _ _ _ _ _ _ from Hown.out) g2
        have HB2 := hidP (via0 g2 HB1.out.drew)
        generalize w2 = W2 at *
        clear SE SK
        obtain ⟨m0, m1, m2⟩ := cB.row
        obtain ⟨x0, x1, x2, x3, x4⟩ := cX.item
        have th := cB.thaw 2
        have qB := cB.lt
        have qX := cX.lt
        have q0 := c0.lt
        have q1 := c1.lt
        have bx := Blk.new W2 34 #[.int .i64 l[n].off, .string l[n].key, .string l[n].text, .int .i64 l[n].who, .int .i64 l[n].time]
        have far0 : some w.heap.size ≠ (Value.slice a M.length c).ownBlock := owns_far HOW.out (by omega)
        have far1 : some (w.heap.size + 1) ≠ (Value.slice a M.length c).ownBlock := owns_far HOW.out (by omega)
        obtain ⟨v', w3, hr, hown3, hgrow, hat⟩ := append_items (w.heap.size + 1 + 1) (.slice a M.length c) M [l[n]] (some ⟨W2.heap.size, 0, none⟩) 1 (W2.alloc (.cells #[.int .i64 l[n].off, .string l[n].key, .string l[n].text, .int .i64 l[n].who, .int .i64 l[n].time] 34)) (by simp; omega) (owns_alloc HOW.out _) (.inr ⟨W2.heap.size, 0, rfl, by simp, fun j u hu => bx.cell (i := 0 + j) (by simpa [flat, It.cs] using hu)⟩) (by simp; omega)
        simp only [List.length_cons, List.length_nil, Nat.zero_add] at hown3 hr
        obtain ⟨a', c', rfl, _⟩ := owns_form hown3
        have sz2 : (W2.alloc (.cells #[.int .i64 l[n].off, .string l[n].key, .string l[n].text, .int .i64 l[n].who, .int .i64 l[n].time] 34)).heap.size = W2.heap.size + 1 := World.size_alloc _ _
        have farB : some B ≠ (Value.slice a' (M.length + 1) c').ownBlock := by
          rcases hat with e | e
          · rw [e]; exact hfar
          · rw [e, sz2]; intro h; have : B = W2.heap.size + 1 := Option.some.inj h; omega
        have e0 := (c0.alloc _).kept hgrow far0
        have e1 := (c1.alloc _).kept hgrow far1
        have eB := (cB.alloc _).kept hgrow hfar
        have B3 := hidP ((alloc0 HB2.out _).grown hgrow (alloc0 HB2.out _).size (fun k e => Nat.le_of_not_lt fun h => owns_far HOW.out (show k < w.heap.size + 1 + 1 by omega) e.symm))
        have Hown3 := hidP hown3
        obtain ⟨i0, i1, i2⟩ := eB.row
        have th3 := eB.thaw 2
        clear hgrow hat hown3 bx far0 far1
        go_wp2_with (at_builtin; refine wpList_append_is rfl _ _ _ rfl _ _ _ rfl rfl hr ?_)
        have zB : Blk _ B 26 #[.int .i64 start, .int .i64 next, .slice a' (M.length + 1) c'] := eB.setAt 2 (.slice a' (M.length + 1) c')
        have el : (M ++ [l[n]]).length = M.length + 1 := by simp
        refine ⟨⟨n + 1, by go_num, by omega, M ++ [l[n]], a', c', e0.other (by omega) _ _, e1.other (by omega) _ _, by rw [el]; exact zB, by rw [el]; exact owns_set Hown3.out farB, by rw [el]; exact farB, bl_set B3.out (by omega) _, by rw [el]; omega, ?_⟩, by simp [intOf]; omega⟩
        rw [List.append_assoc, List.singleton_append, ← packF_yes hlt HST.out]
        exact hpk.out
    · have hEnd : Hid (packF (IntKind.i64.wrap (next - 1)) length l = M) := by show _ = _; rw [← hpk.out, List.drop_eq_nil_of_le (by omega)]; simp [packF]
      obtain ⟨n0, n1, n2⟩ := b1.row
      have k0 := b1.thaw 0
      have k1 := b1.thaw 1
      have k2 := b1.thaw 2
      have far := hidP (owns_far hown.out (show w.heap.size + 1 < w.heap.size + 1 + 1 by omega))
      have hne : B ≠ w.heap.size + 1 := by omega
      have hne' : w.heap.size + 1 ≠ B := by omega
      go_wp2
      have z : Blk _ (w.heap.size + 1) 26 #[.int .i64 start, .int .i64 next, .slice a M.length c] := ((b1.setAt 0 (.int .i64 start)).setAt 1 (.int .i64 next)).setAt 2 (.slice a M.length c)
      obtain ⟨e0, e1, e2⟩ := z.row
      exact bodyPost_ret (v := .agg #[.int .i64 start, .int .i64 next, .slice a M.length c]) (by simp [results, Try.results26, go_sem, e0, e1, e2]) rfl
        ⟨_, rfl, by rw [hEnd.out]; exact owns_mono (owns_set (owns_set (owns_set hown.out far.out) far.out) far.out) (by omega), bl_set (bl_set (bl_set hB.out (by omega) _) (by omega) _) (by omega) _⟩
end Go.Proofs.Ytnmbbkagjpmhdaa.Items
