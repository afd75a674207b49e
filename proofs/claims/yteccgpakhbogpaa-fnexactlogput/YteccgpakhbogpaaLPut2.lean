/-
  Logs copied, and the program's put. No condition but that there are at most 1048576 entries.
-/
import Derived.Test.YteccgpakhbogpaaLPut1
import Derived.Test.YteccgpakhbogpaaTillOp
namespace Go.Proofs.Yteccgpakhbogpaa.Gen
open Go.ChangeShapes Go.WideShapes Go.ChangeAt Go.RowKit Go.Joins Go.Deep Base
set_option linter.unusedVariables false
set_option linter.unusedSimpArgs false

theorem newSl_set {B C i : Nat} {W : World} {v u : Value} {l : List En} (h : NewSl B W v l) (hC : C < B) : NewSl B (W.setCell ⟨C, i, none⟩ u) v l := by
  obtain ⟨a, c, F, e, h1, h2, hs, hF⟩ := h
  exact ⟨a, c, F, e, h1, h2, hs.off (Off.of_only ((Only.refl C W).set i u)) (fun x hx => by have := hF x hx; simp; omega), hF⟩

/-- Entries appended to a list that has no room behind it: all in new memory. -/
theorem append_full (A A2 : Option Addr) (c2 : Nat) (m q : List En) (n k : Nat) (hn : n = m.length) (hk : k = q.length) (hq : 0 < q.length) (hlen : m.length + q.length ≤ 3000000) (w : World) (hA : At w A m) (hA2 : At w A2 q) :
    ∃ a c w', (Builtin.append_ #[27, 27] 27 #[.slice A n n, .slice A2 k c2]).run Try.prog w = .ok (.slice a (n + k) c) w' ∧ Below w.heap.size w w' ∧ NewSl w.heap.size w' (.slice a (n + k) c) (m ++ q) := by
  subst hn hk
  obtain ⟨i0, hi, hz0, hz1, hz2⟩ := info_parts infoEn
  obtain ⟨b, o, rfl, hb, hin⟩ : ∃ b o, A2 = some ⟨b, o, none⟩ ∧ b < w.heap.size ∧ In w b o q := by
    rcases hA2 with h | h
    · subst h; simp at hq
    · exact h
  have hsrc : Src Try.prog i0.size 27 (.slice (some ⟨b, o, none⟩) q.length c2) q.length (flat q) w := by
    rw [hz1]
    exact Src.ofSlice w Try.underlying27 ⟨b, o, none⟩ q.length c2 (flat q) (flat_length q) (fun j u hu => by rw [Addr.add_mid]; exact hin j u hu) (flat_ones q)
  have hold : (Builtin.firstCells i0.size m.length (.slice A m.length m.length)).run Try.prog w.drew = .ok (flat m).toArray w.drew := by
    rw [hz1]
    rcases hA with h | ⟨b', o', rfl, hb', hin'⟩
    · subst h
      cases A <;> simp [Builtin.firstCells, loadCells, loadCellsFrom, flat]
    · exact run_firstCells_some w.drew 9 m.length ⟨b', o', none⟩ m.length m.length (flat m) (flat_length m) (fun j u hu => by rw [Addr.add_mid]; exact hin' j u hu)
  have hg : m.length < m.length + q.length := by omega
  have hby : (m.length + q.length) * i0.bytes ≤ 140737488355328 := by rw [hz2]; omega
  have hrun := run_append_grow_src (P := Try.prog) w 27 27 27 48 i0 _ Try.underlying27 hi hz0 A m.length m.length (flat m) hold _ q.length (flat q) hsrc hg (by omega) (growslice_fits hg hby)
  have hge := grownCap_ge w (m.length + q.length) m.length 48
  have hcm := grownCap_le_maxLen w (m.length + q.length) m.length 48 (by simp [maxLen]; omega)
  refine ⟨_, _, _, hrun, alloc0 (Below.refl _ _).drew _, ?_⟩
  have hblk := Blk.new w.drew 48 ((flat m ++ flat q).toArray ++ Builtin.zeroCells (Value.agg #[.int .i64 0, .int .i64 0, .int .i64 0, .int .i64 0, .int .i64 0, .int .i64 0, .int .i64 0, .string ⟨#[]⟩, .string ⟨#[]⟩]).cells (grownCap w (m.length + q.length) m.length 48 - (m.length + q.length)))
  have hl : (flat m ++ flat q).length = (m ++ q).length * 9 := by rw [← flat_append]; exact flat_length (m ++ q)
  refine ⟨some ⟨w.heap.size, 0, none⟩, _, [w.heap.size], by rw [List.length_append], by rw [List.length_append]; exact hge, hcm, .inr ⟨w.heap.size, 0, rfl, rfl, hblk.lt, ?_, ?_⟩, by simp⟩
  · intro j v hv
    rw [flat_append] at hv
    rw [Nat.zero_add]
    have hj := (List.getElem?_eq_some_iff.1 hv).1
    refine hblk.cell ?_
    rw [Array.getElem?_append_left (by simpa using hj), List.getElem?_toArray]
    exact hv
  · intro j hj
    refine ⟨?_, hblk.thaw _⟩
    rw [Nat.zero_add]
    have hj' : j < (flat m ++ flat q).length := by rw [hl]; exact hj
    have := hblk.cell (i := j) (v := (flat m ++ flat q)[j]) (by rw [Array.getElem?_append_left (by simpa using hj'), List.getElem?_toArray, List.getElem?_eq_getElem hj'])
    rw [show w.drew.heap.size = w.heap.size from rfl] at this
    rw [this]; rfl

set_option maxRecDepth 100000 in
set_option maxHeartbeats 1000000 in
theorem copied_any (base bt : Int) (A : Option Addr) (cap : Nat) (l : List En) (hl : l.length ≤ 3000000) (w : World) (hA : At w A l) :
    Calls Try.prog 22 #[.agg #[.int .i64 base, .int .i64 bt, .slice A l.length cap]] w fun e w' => ∃ v, e = .returned (.agg #[.int .i64 base, .int .i64 bt, v]) ∧ NewSl w.heap.size w' v l ∧ Below w.heap.size w w' := by
  have HC : Hid (∀ W : World, Below w.heap.size w W → Calls Try.prog 38 #[.slice A l.length cap] W fun e w' => ∃ v, e = .returned v ∧ NewSl W.heap.size w' v l ∧ Below W.heap.size W w') := fun W g => copyOf_any A cap l hl W (hA.below g)
  clear hA
  have B0 : Below w.heap.size w ((w.alloc (.cells #[.int .i64 base, .int .i64 bt, .slice A l.length cap] 29)).alloc (.cells #[.int .i64 0, .int .i64 0, .slice none 0 0] 29)) := alloc0 (alloc0 (Below.refl _ _) _) _
  have P0 : Blk ((w.alloc (.cells #[.int .i64 base, .int .i64 bt, .slice A l.length cap] 29)).alloc (.cells #[.int .i64 0, .int .i64 0, .slice none 0 0] 29)) w.heap.size 29 #[.int .i64 base, .int .i64 bt, .slice A l.length cap] := (Blk.new w 29 #[.int .i64 base, .int .i64 bt, .slice A l.length cap]).alloc _
  have R0 : Blk ((w.alloc (.cells #[.int .i64 base, .int .i64 bt, .slice A l.length cap] 29)).alloc (.cells #[.int .i64 0, .int .i64 0, .slice none 0 0] 29)) (w.heap.size + 1) 29 #[.int .i64 0, .int .i64 0, .slice none 0 0] := by have := Blk.new (w.alloc (.cells #[.int .i64 base, .int .i64 bt, .slice A l.length cap] 29)) 29 #[.int .i64 0, .int .i64 0, .slice none 0 0]; rwa [World.size_alloc] at this
  go_enter Try.func22, Try.ntmps22
  go_wp2_with fail
  refine (HC.out _ B0).mono ?_
  rintro e w1 ⟨v, rfl, n1, g1⟩
  have B1 := via0 g1 B0
  replace P0 := P0.below g1 P0.lt
  replace R0 := R0.below g1 R0.lt
  have n2 : NewSl (w.heap.size + 1 + 1) w1 v l := by simpa using n1
  obtain ⟨a, c, rfl⟩ : ∃ a c, v = .slice a l.length c := by obtain ⟨a, c, F, e, _⟩ := n1; exact ⟨a, c, e⟩
  have N2 := hidP n2
  obtain ⟨u0, u1, u2⟩ := P0.row3
  obtain ⟨x0, x1, x2⟩ := R0.row3
  have fp := fun i => P0.thaw i
  have fr := fun i => R0.thaw i
  have q1 := P0.lt
  have q2 := R0.lt
  clear n1 n2 g1
  go_wp2
  refine bodyPost_ret (v := .agg #[.int .i64 base, .int .i64 bt, .slice a l.length c]) (by simp [results, Try.results22, go_sem, *]) rfl ⟨_, rfl, ?_, ?_⟩
  · exact newSl_mono (newSl_set (newSl_set (newSl_set (newSl_set N2.out (by omega)) (by omega)) (by omega)) (by omega)) (by omega)
  · exact bl_set (bl_set (bl_set (bl_set B1 (by omega) _) (by omega) _) (by omega) _) (by omega) _

set_option maxRecDepth 100000 in
set_option maxHeartbeats 2000000 in
theorem l8Copy_any (base bt : Int) (A : Option Addr) (cap : Nat) (l : List En) (hl : l.length ≤ 3000000) (w : World) (hA : At w A l) :
    Calls Try.prog 17 #[.agg #[.int .i64 base, .int .i64 bt, .slice A l.length cap]] w fun e w' => ∃ v, e = .returned (.agg #[.int .i64 base, .int .i64 bt, v]) ∧ w'.ownsRow (w.heap.size + 2) 48 9 v l.length (flat l) ∧ Below w.heap.size w w' := by
  have B0 : Below w.heap.size w ((w.alloc (.cells #[.int .i64 base, .int .i64 bt, .slice A l.length cap] 29)).alloc (.cells #[.int .i64 0, .int .i64 0, .slice none 0 0] 29)) := alloc0 (alloc0 (Below.refl _ _) _) _
  have P0 : Blk ((w.alloc (.cells #[.int .i64 base, .int .i64 bt, .slice A l.length cap] 29)).alloc (.cells #[.int .i64 0, .int .i64 0, .slice none 0 0] 29)).drew w.heap.size 29 #[.int .i64 base, .int .i64 bt, .slice A l.length cap] := (Blk.new w 29 #[.int .i64 base, .int .i64 bt, .slice A l.length cap]).alloc _
  have R0 : Blk ((w.alloc (.cells #[.int .i64 base, .int .i64 bt, .slice A l.length cap] 29)).alloc (.cells #[.int .i64 0, .int .i64 0, .slice none 0 0] 29)).drew (w.heap.size + 1) 29 #[.int .i64 0, .int .i64 0, .slice none 0 0] := by have := Blk.new (w.alloc (.cells #[.int .i64 base, .int .i64 bt, .slice A l.length cap] 29)) 29 #[.int .i64 0, .int .i64 0, .slice none 0 0]; rwa [World.size_alloc] at this
  have P1 : Blk (((w.alloc (.cells #[.int .i64 base, .int .i64 bt, .slice A l.length cap] 29)).alloc (.cells #[.int .i64 0, .int .i64 0, .slice none 0 0] 29)).alloc (.cells #[] 48)).drew w.heap.size 29 #[.int .i64 base, .int .i64 bt, .slice A l.length cap] := P0.alloc _
  have R1 : Blk (((w.alloc (.cells #[.int .i64 base, .int .i64 bt, .slice A l.length cap] 29)).alloc (.cells #[.int .i64 0, .int .i64 0, .slice none 0 0] 29)).alloc (.cells #[] 48)).drew (w.heap.size + 1) 29 #[.int .i64 0, .int .i64 0, .slice none 0 0] := R0.alloc _
  have B1 : Below w.heap.size w (((w.alloc (.cells #[.int .i64 base, .int .i64 bt, .slice A l.length cap] 29)).alloc (.cells #[.int .i64 0, .int .i64 0, .slice none 0 0] 29)).alloc (.cells #[] 48)).drew := (alloc0 B0 _).drew
  have hown0 : (((w.alloc (.cells #[.int .i64 base, .int .i64 bt, .slice A l.length cap] 29)).alloc (.cells #[.int .i64 0, .int .i64 0, .slice none 0 0] 29)).alloc (.cells #[] 48)).drew.ownsRow (w.heap.size + 1 + 1) 48 9 (.slice (some ⟨w.heap.size + 1 + 1, 0, none⟩) 0 0) 0 (flat ([] : List En)) :=
    own_noneE (W := (w.alloc (.cells #[.int .i64 base, .int .i64 bt, .slice A l.length cap] 29)).alloc (.cells #[.int .i64 0, .int .i64 0, .slice none 0 0] 29)) (by simp) (by simp)
  obtain ⟨v, w2, hr, hown, hbl⟩ := copy_els (w.heap.size + 1 + 1) (.slice (some ⟨w.heap.size + 1 + 1, 0, none⟩) 0 0) l A cap l.length _ rfl (by show w.heap.size + 1 + 1 ≤ (((w.alloc (.cells #[.int .i64 base, .int .i64 bt, .slice A l.length cap] 29)).alloc (.cells #[.int .i64 0, .int .i64 0, .slice none 0 0] 29)).alloc (.cells #[] 48)).heap.size; simp) hown0 (fun k e => by simp [Value.ownBlock] at e; omega) (hA.below B1) hl
  have P2 := P1.below hbl (by omega)
  have R2 := R1.below hbl (by omega)
  have B2 : Below w.heap.size w w2 := B1.trans (hbl.mono (by omega))
  obtain ⟨a, c, rfl, hc⟩ := owns_form hown
  have hf := owns_far hown (C := w.heap.size + 1) (by omega)
  have O3 := hidP (owns_set (owns_set (owns_set hown hf (i := 0) (u := .int .i64 base)) hf (i := 1) (u := .int .i64 bt)) hf (i := 2) (u := .slice a l.length c))
  obtain ⟨x0, x1, x2⟩ := R2.row3
  have fr := fun i => R2.thaw i
  have q2 := R2.lt
  have P3 : Blk (((w2.setCell ⟨w.heap.size + 1, 0, none⟩ (.int .i64 base)).setCell ⟨w.heap.size + 1, 1, none⟩ (.int .i64 bt)).setCell ⟨w.heap.size + 1, 2, none⟩ (.slice a l.length c)) w.heap.size 29 #[.int .i64 base, .int .i64 bt, .slice A l.length cap] := ((P2.other (by omega) _ _).other (by omega) _ _).other (by omega) _ _
  clear hA hown hown0 hbl B0 B1 R0 R1 hf hc
  go_enter Try.func17, Try.ntmps17
  go_wp2_with fail
  refine wp_region_noPanic ?_
  refine wp_region_held_drew (S := (fun (W : World) => W.cell? ⟨w.heap.size, 0, none⟩ = some (.int .i64 base) ∧ W.cell? ⟨w.heap.size, 1, none⟩ = some (.int .i64 bt) ∧ W.cell? ⟨w.heap.size, 2, none⟩ = some (.slice A l.length cap))) (by kernel_rfl) ?_ (fun hH => ?_)
  · exact P0.row3
  refine' wpAnyH_take (i := 0) (v := _) rfl (by kernel_rfl) (by kernel_rfl) (by kernel_rfl) (fun _ _ _ h => h) (Or.inl ⟨by rfl, ?hy1⟩) (by assumption) ?rest1
  case hy1 => (intro w hSw; (try dsimp only at hSw); go_simp <;> with_reducible rfl)
  try simp only [Act.put, List.setIfInBounds_toArray, List.set_cons_zero, List.set_cons_succ, List.getElem_toArray, List.getElem_cons_succ, List.getElem_cons_zero]
  refine' wpAnyH_take (i := 1) (v := _) rfl (by kernel_rfl) (by kernel_rfl) (by kernel_rfl) (fun _ _ _ h => h) (Or.inl ⟨by rfl, ?hy2⟩) (by assumption) ?rest2
  case hy2 => (intro w hSw; (try dsimp only at hSw); go_simp <;> with_reducible rfl)
  try simp only [Act.put, List.setIfInBounds_toArray, List.set_cons_zero, List.set_cons_succ, List.getElem_toArray, List.getElem_cons_succ, List.getElem_cons_zero]
  refine' wpAnyH_take (i := 2) (v := _) rfl (by kernel_rfl) (by kernel_rfl) (by kernel_rfl) (fun _ _ _ h => h) (Or.inl ⟨by rfl, ?hy3⟩) (by assumption) ?rest3
  case hy3 => (intro w hSw; (try dsimp only at hSw); go_simp <;> with_reducible rfl)
  try simp only [Act.put, List.setIfInBounds_toArray, List.set_cons_zero, List.set_cons_succ, List.getElem_toArray, List.getElem_cons_succ, List.getElem_cons_zero]
  refine' wpAnyH_take (i := 3) (v := _) rfl (by kernel_rfl) (by kernel_rfl) (by kernel_rfl) (fun _ _ _ h => h) (Or.inl ⟨by rfl, ?hy4⟩) (by assumption) ?rest4
  case hy4 => (intro w hSw; (try dsimp only at hSw); go_simp <;> with_reducible rfl)
  try simp only [Act.put, List.setIfInBounds_toArray, List.set_cons_zero, List.set_cons_succ, List.getElem_toArray, List.getElem_cons_succ, List.getElem_cons_zero]
  refine' wpAnyH_take (i := 5) (v := _) rfl (by kernel_rfl) (by kernel_rfl) (by kernel_rfl) (fun _ _ _ h => h) (Or.inl ⟨by rfl, ?hy5⟩) (by assumption) ?rest5
  case hy5 => (intro w hSw; (try dsimp only at hSw); go_simp <;> with_reducible rfl)
  try simp only [Act.put, List.setIfInBounds_toArray, List.set_cons_zero, List.set_cons_succ, List.getElem_toArray, List.getElem_cons_succ, List.getElem_cons_zero]
  refine' wpAnyH_take (i := 6) (v := _) rfl (by kernel_rfl) (by kernel_rfl) (by kernel_rfl) (fun _ _ _ h => h) (Or.inl ⟨by rfl, ?hy6⟩) (by assumption) ?rest6
  case hy6 => (intro w hSw; (try dsimp only at hSw); go_simp <;> with_reducible rfl)
  try simp only [Act.put, List.setIfInBounds_toArray, List.set_cons_zero, List.set_cons_succ, List.getElem_toArray, List.getElem_cons_succ, List.getElem_cons_zero]
  refine wpAnyH_ready (rs := [4]) (by kernel_rfl) (by simp) (AllReadyH.cons rfl (fun K hK => ?_) AllReadyH.nil)
  simp only [List.getElem_toArray, List.getElem_cons_succ, List.getElem_cons_zero]
  go_simp
  refine hK.out _ _ ?_ (fun hH => ?_)
  · exact P1.row3
  clear hK K
  try simp only [Act.put, List.setIfInBounds_toArray, List.set_cons_zero, List.set_cons_succ, List.getElem_toArray, List.getElem_cons_succ, List.getElem_cons_zero]
  refine wpAnyH_ready (rs := [7]) (by kernel_rfl) (by simp) (AllReadyH.cons rfl (fun K hK => ?_) AllReadyH.nil)
  simp only [List.getElem_toArray, List.getElem_cons_succ, List.getElem_cons_zero]
  rw [if_pos (by rfl)]; refine wp_append_is _ _ _ (by rfl) _ _ _ (by rfl) (by rfl) hr ?_
  refine hK.out _ _ ?_ (fun hH => ?_)
  · exact P2.row3
  clear hK K
  try simp only [Act.put, List.setIfInBounds_toArray, List.set_cons_zero, List.set_cons_succ, List.getElem_toArray, List.getElem_cons_succ, List.getElem_cons_zero]
  refine' wpAnyH_take (i := 8) (v := _) rfl (by kernel_rfl) (by kernel_rfl) (by kernel_rfl) (fun _ _ _ h => h) (Or.inl ⟨by rfl, ?hy7⟩) (by assumption) ?rest7
  case hy7 => (intro w hSw; (try dsimp only at hSw); go_simp <;> with_reducible rfl)
  try simp only [Act.put, List.setIfInBounds_toArray, List.set_cons_zero, List.set_cons_succ, List.getElem_toArray, List.getElem_cons_succ, List.getElem_cons_zero]
  refine wpAnyH_ready (rs := [9]) (by kernel_rfl) (by simp) (AllReadyH.cons rfl (fun K hK => ?_) AllReadyH.nil)
  simp only [List.getElem_toArray, List.getElem_cons_succ, List.getElem_cons_zero]
  go_simp
  refine hK.out _ _ ?_ (fun hH => ?_)
  · exact P3.row3
  clear hK K
  try simp only [Act.put, List.setIfInBounds_toArray, List.set_cons_zero, List.set_cons_succ, List.getElem_toArray, List.getElem_cons_succ, List.getElem_cons_zero]
  refine wpAnyH_done (by kernel_rfl) ?_ _
  refine NoPanic.normal ?_
  go_wp2
  refine bodyPost_ret (v := .agg #[.int .i64 base, .int .i64 bt, .slice a l.length c]) (by simp [results, Try.results17, go_sem, *]) rfl ⟨_, rfl, O3.out, ?_⟩
  exact bl_set (bl_set (bl_set B2 (by omega) _) (by omega) _) (by omega) _

set_option maxRecDepth 100000 in
set_option maxHeartbeats 2000000 in
theorem put_any (base bt : Int) (hb0 : 0 ≤ base) (hb1 : base ≤ 300) (A A2 : Option Addr) (cap c2 k : Nat) (l q : List En) (hl : l.length ≤ 3000) (hq : q.length ≤ 1048576) (hk : k ≤ l.length) (hcap : l.length ≤ cap ∧ cap ≤ maxLen) (hc2 : q.length ≤ c2 ∧ c2 ≤ maxLen) (w : World) (hA : At w A l) (hA2 : At w A2 q) :
    Calls Try.prog 23 #[.agg #[.int .i64 base, .int .i64 bt, .slice A l.length cap], .int .i64 (base + (k : Int)), .slice A2 q.length c2] w fun e w' => ∃ v, e = .returned (.agg #[.int .i64 base, .int .i64 bt, v]) ∧ NewSl w.heap.size w' v (putL k l q) ∧ Below w.heap.size w w' := by
  have HA := hidP hA
  have HA2 := hidP hA2
  have hle := alike_le (l.drop k) q
  have E1 : Hid (∀ W : World, Below w.heap.size w W → Calls Try.prog 39 #[.slice (cutA A cap k) (l.length - k) (cap - k), .slice A2 q.length c2] W fun e w' => e = .returned (.int .i64 (alikeN (l.drop k) q : Int)) ∧ Below W.heap.size W w') := fun W g => by
    have := alike_any (cutA A cap k) A2 (cap - k) c2 (l.drop k) q (by simp; omega) (by omega) W ((hA.below g).cutFrom k hcap.1) (hA2.below g)
    rwa [List.length_drop] at this
  have E2 : Hid (∀ W : World, Below w.heap.size w W → Calls Try.prog 22 #[.agg #[.int .i64 base, .int .i64 bt, .slice A l.length cap]] W fun e w' => ∃ v, e = .returned (.agg #[.int .i64 base, .int .i64 bt, v]) ∧ NewSl W.heap.size w' v l ∧ Below W.heap.size W w') := fun W g => copied_any base bt A cap l (by omega) W (hA.below g)
  have hp : Hid (putL k l q = if alikeN (l.drop k) q = q.length then l else l.take (k + alikeN (l.drop k) q) ++ q.drop (alikeN (l.drop k) q)) := rfl
  clear hA hA2
  generalize alikeN (l.drop k) q = s at hle E1 hp
  rw [List.length_drop] at hle
  obtain ⟨hs1, hs3⟩ := hle
  have hs := cut_from A l.length cap k hk hcap.1 hcap.2
  have k1 : base + (k : Int) - base = (k : Int) := by omega
  have B0 : Below w.heap.size w ((w.alloc (.cells #[.int .i64 base, .int .i64 bt, .slice A l.length cap] 29)).alloc (.cells #[.int .i64 0, .int .i64 0, .slice none 0 0] 29)) := alloc0 (alloc0 (Below.refl _ _) _) _
  have P0 : Blk ((w.alloc (.cells #[.int .i64 base, .int .i64 bt, .slice A l.length cap] 29)).alloc (.cells #[.int .i64 0, .int .i64 0, .slice none 0 0] 29)) w.heap.size 29 #[.int .i64 base, .int .i64 bt, .slice A l.length cap] := (Blk.new w 29 #[.int .i64 base, .int .i64 bt, .slice A l.length cap]).alloc _
  have R0 : Blk ((w.alloc (.cells #[.int .i64 base, .int .i64 bt, .slice A l.length cap] 29)).alloc (.cells #[.int .i64 0, .int .i64 0, .slice none 0 0] 29)) (w.heap.size + 1) 29 #[.int .i64 0, .int .i64 0, .slice none 0 0] := by have := Blk.new (w.alloc (.cells #[.int .i64 base, .int .i64 bt, .slice A l.length cap] 29)) 29 #[.int .i64 0, .int .i64 0, .slice none 0 0]; rwa [World.size_alloc] at this
  by_cases he : s = q.length
  · rw [if_pos he] at hp
    have he' : (s : Int) = (q.length : Int) := by omega
    go_enter Try.func23, Try.ntmps23
    go_wp2_with fail
    refine (E1.out _ B0).mono ?_
    rintro e w1 ⟨rfl, g1⟩
    have B1 := via0 g1 B0
    replace P0 := P0.below g1 P0.lt
    replace R0 := R0.below g1 R0.lt
    obtain ⟨u0, u1, u2⟩ := P0.row3
    have q1 := P0.lt
    clear g1
    go_wp2_with fail
    refine (E2.out _ B1).mono ?_
    rintro e w2 ⟨v, rfl, n2, g2⟩
    have h5 : w.heap.size + 2 ≤ w1.heap.size := R0.lt
    have B2 := via0 g2 B1
    replace P0 := P0.below g2 P0.lt
    replace R0 := R0.below g2 R0.lt
    obtain ⟨a, c, rfl⟩ : ∃ a c, v = .slice a l.length c := by obtain ⟨a, c, F, e, _⟩ := n2; exact ⟨a, c, e⟩
    have N2 := hidP (newSl_mono n2 (C := w.heap.size + 2) h5)
    obtain ⟨x0, x1, x2⟩ := R0.row3
    have fr := fun i => R0.thaw i
    have q2 := R0.lt
    clear n2 g2 u0 u1 u2
    go_wp2
    refine bodyPost_ret (v := .agg #[.int .i64 base, .int .i64 bt, .slice a l.length c]) (by simp [results, Try.results23, go_sem, *]) rfl ⟨_, rfl, ?_, ?_⟩
    · rw [hp.out]
      exact newSl_mono (newSl_set (newSl_set (newSl_set N2.out (by omega)) (by omega)) (by omega)) (by omega)
    · exact bl_set (bl_set (bl_set B2 (by omega) _) (by omega) _) (by omega) _
  · rw [if_neg he] at hp
    have he' : ¬ (s : Int) = (q.length : Int) := by omega
    have hw : IntKind.i64.wrap ((k : Int) + (s : Int)) = (k : Int) + (s : Int) := by simp [IntKind.wrap, IntKind.bits, IntKind.signed]; omega
    have hs2 := cut_from A2 q.length c2 s hs3 hc2.1 hc2.2
    have E5 : Hid (∀ W : World, Calls Try.prog 40 #[.slice A l.length cap, .int .i64 0, .int .i64 ((k : Int) + (s : Int))] W fun e w' => e = .returned (.slice A (k + s) (k + s)) ∧ w' = W) := fun W => by
      have := cutOf_any A l.length cap 0 (k + s) (by omega) (by omega) hcap.2 W
      have e : cutA A (k + s) 0 = A := by unfold cutA; split; rfl; cases A <;> simp [Addr.add]
      rw [e, Int.natCast_add] at this
      exact this
    go_enter Try.func23, Try.ntmps23
    go_wp2_with fail
    refine (E1.out _ B0).mono ?_
    rintro e w1 ⟨rfl, g1⟩
    have B1 := via0 g1 B0
    replace P0 := P0.below g1 P0.lt
    replace R0 := R0.below g1 R0.lt
    have P2 : Blk w1.drew w.heap.size 29 #[.int .i64 base, .int .i64 bt, .slice A l.length cap] := P0
    have q1 := P0.lt
    obtain ⟨a, c, w2, hr, hbl, n2⟩ := append_full A (cutA A2 c2 s) (c2 - s) (l.take (k + s)) (q.drop s) (k + s) (q.length - s) (by simp; omega) (by simp) (by simp; omega) (by simp; omega) w1.drew ((HA.out.below B1.drew).take _) ((HA2.out.below B1.drew).cutFrom s hc2.1)
    have P3 : Blk w2 w.heap.size 29 #[.int .i64 base, .int .i64 bt, .slice A l.length cap] := P2.below hbl P2.lt
    have R3 : Blk w2 (w.heap.size + 1) 29 #[.int .i64 0, .int .i64 0, .slice none 0 0] := (show Blk w1.drew (w.heap.size + 1) 29 #[.int .i64 0, .int .i64 0, .slice none 0 0] from R0).below hbl (show Blk w1.drew (w.heap.size + 1) 29 #[.int .i64 0, .int .i64 0, .slice none 0 0] from R0).lt
    have B3 := via0 hbl B1.drew
    have hR0 := R0.lt
    have N2 := hidP (newSl_mono n2 (C := w.heap.size + 2) hR0)
    obtain ⟨z0, z1, z2⟩ := P3.row3
    obtain ⟨x0, x1, x2⟩ := R3.row3
    have fp := fun i => P3.thaw i
    have fr := fun i => R3.thaw i
    have q2 := R3.lt
    have q3 := P3.lt
    have hS3 : ((fun (W : World) => W.cell? ⟨w.heap.size, 0, none⟩ = some (.int .i64 base) ∧ W.cell? ⟨w.heap.size, 1, none⟩ = some (.int .i64 bt) ∧ W.cell? ⟨w.heap.size, 2, none⟩ = some (.slice A l.length cap))) w2 := P3.row3
    clear g1 n2 hbl HA HA2 E1 E2 hR0
    go_wp2_with fail
    refine wp_region_noPanic ?_
    have hH : ((fun (W : World) => W.cell? ⟨w.heap.size, 0, none⟩ = some (.int .i64 base) ∧ W.cell? ⟨w.heap.size, 1, none⟩ = some (.int .i64 bt) ∧ W.cell? ⟨w.heap.size, 2, none⟩ = some (.slice A l.length cap))) _ := P2.row3
    refine region_till 11 ((fun (W : World) => W.cell? ⟨w.heap.size, 0, none⟩ = some (.int .i64 base) ∧ W.cell? ⟨w.heap.size, 1, none⟩ = some (.int .i64 bt) ∧ W.cell? ⟨w.heap.size, 2, none⟩ = some (.slice A l.length cap))) (by kernel_rfl) ?_
    refine' till_taken (i := 0) (v := _) (by kernel_rfl) rfl (by kernel_rfl) (by decide) (by kernel_rfl) (by kernel_rfl) (by kernel_rfl) (fun _ _ _ h => h) (Or.inl ⟨by rfl, ?hy8⟩) (by assumption) ?rest8
    case hy8 => (intro w hSw; (try dsimp only at hSw); go_simp <;> with_reducible rfl)
    try simp only [Act.put, List.setIfInBounds_toArray, List.set_cons_zero, List.set_cons_succ, List.getElem_toArray, List.getElem_cons_succ, List.getElem_cons_zero]
    refine' till_taken (i := 1) (v := _) (by kernel_rfl) rfl (by kernel_rfl) (by decide) (by kernel_rfl) (by kernel_rfl) (by kernel_rfl) (fun _ _ _ h => h) (Or.inl ⟨by rfl, ?hy9⟩) (by assumption) ?rest9
    case hy9 => (intro w hSw; (try dsimp only at hSw); go_simp <;> with_reducible rfl)
    try simp only [Act.put, List.setIfInBounds_toArray, List.set_cons_zero, List.set_cons_succ, List.getElem_toArray, List.getElem_cons_succ, List.getElem_cons_zero]
    refine' till_taken (i := 2) (v := _) (by kernel_rfl) rfl (by kernel_rfl) (by decide) (by kernel_rfl) (by kernel_rfl) (by kernel_rfl) (fun _ _ _ h => h) (Or.inl ⟨by rfl, ?hy10⟩) (by assumption) ?rest10
    case hy10 => (intro w hSw; (try dsimp only at hSw); go_simp <;> with_reducible rfl)
    try simp only [Act.put, List.setIfInBounds_toArray, List.set_cons_zero, List.set_cons_succ, List.getElem_toArray, List.getElem_cons_succ, List.getElem_cons_zero]
    refine' till_taken (i := 3) (v := _) (by kernel_rfl) rfl (by kernel_rfl) (by decide) (by kernel_rfl) (by kernel_rfl) (by kernel_rfl) (fun _ _ _ h => h) (Or.inl ⟨by rfl, ?hy11⟩) (by assumption) ?rest11
    case hy11 => (intro w hSw; (try dsimp only at hSw); go_simp <;> with_reducible rfl)
    try simp only [Act.put, List.setIfInBounds_toArray, List.set_cons_zero, List.set_cons_succ, List.getElem_toArray, List.getElem_cons_succ, List.getElem_cons_zero]
    refine' till_taken (i := 4) (v := _) (by kernel_rfl) rfl (by kernel_rfl) (by decide) (by kernel_rfl) (by kernel_rfl) (by kernel_rfl) (fun _ _ _ h => h) (Or.inl ⟨by rfl, ?hy12⟩) (by assumption) ?rest12
    case hy12 => (intro w hSw; (try dsimp only at hSw); go_simp <;> with_reducible rfl)
    try simp only [Act.put, List.setIfInBounds_toArray, List.set_cons_zero, List.set_cons_succ, List.getElem_toArray, List.getElem_cons_succ, List.getElem_cons_zero]
    refine' till_taken (i := 6) (v := _) (by kernel_rfl) rfl (by kernel_rfl) (by decide) (by kernel_rfl) (by kernel_rfl) (by kernel_rfl) (fun _ _ _ h => h) (Or.inl ⟨by rfl, ?hy13⟩) (by assumption) ?rest13
    case hy13 => (intro w hSw; (try dsimp only at hSw); go_simp <;> with_reducible rfl)
    try simp only [Act.put, List.setIfInBounds_toArray, List.set_cons_zero, List.set_cons_succ, List.getElem_toArray, List.getElem_cons_succ, List.getElem_cons_zero]
    refine' till_taken (i := 7) (v := _) (by kernel_rfl) rfl (by kernel_rfl) (by decide) (by kernel_rfl) (by kernel_rfl) (by kernel_rfl) (fun _ _ _ h => h) (Or.inl ⟨by rfl, ?hy14⟩) (by assumption) ?rest14
    case hy14 => (intro w hSw; (try dsimp only at hSw); go_simp <;> with_reducible rfl)
    try simp only [Act.put, List.setIfInBounds_toArray, List.set_cons_zero, List.set_cons_succ, List.getElem_toArray, List.getElem_cons_succ, List.getElem_cons_zero]
    refine' till_taken (i := 8) (v := _) (by kernel_rfl) rfl (by kernel_rfl) (by decide) (by kernel_rfl) (by kernel_rfl) (by kernel_rfl) (fun _ _ _ h => h) (Or.inl ⟨by rfl, ?hy15⟩) (by assumption) ?rest15
    case hy15 => (intro w hSw; (try dsimp only at hSw); go_simp <;> with_reducible rfl)
    try simp only [Act.put, List.setIfInBounds_toArray, List.set_cons_zero, List.set_cons_succ, List.getElem_toArray, List.getElem_cons_succ, List.getElem_cons_zero]
    refine till_next (i := 5) (by kernel_rfl) rfl (fun K hK => ?_)
    simp only [List.getElem_toArray, List.getElem_cons_succ, List.getElem_cons_zero]
    go_simp; refine (E5.out _).mono ?_; rintro e y1 ⟨rfl, rfl⟩
    refine hK.out _ _ (.inr P2.row3) ?_
    clear hK K
    try simp only [Act.put, List.setIfInBounds_toArray, List.set_cons_zero, List.set_cons_succ, List.getElem_toArray, List.getElem_cons_succ, List.getElem_cons_zero]
    refine till_next (i := 9) (by kernel_rfl) rfl (fun K hK => ?_)
    simp only [List.getElem_toArray, List.getElem_cons_succ, List.getElem_cons_zero]
    rw [if_pos (by rfl)]; refine wp_append_is _ _ _ (by rfl) _ _ _ (by rfl) (by rfl) hr ?_
    refine hK.out _ _ (.inr P3.row3) ?_
    clear hK K
    try simp only [Act.put, List.setIfInBounds_toArray, List.set_cons_zero, List.set_cons_succ, List.getElem_toArray, List.getElem_cons_succ, List.getElem_cons_zero]
    refine' till_freed (i := 10) (v := _) rfl (by kernel_rfl) (by decide) (by kernel_rfl) (by kernel_rfl) (fun _ _ _ h => h) (Or.inl ⟨by rfl, ?hy16⟩) (by assumption) ?rest16
    case hy16 => (intro w hSw; (try dsimp only at hSw); go_simp <;> with_reducible rfl)
    try simp only [Act.put, List.setIfInBounds_toArray, List.set_cons_zero, List.set_cons_succ, List.getElem_toArray, List.getElem_cons_succ, List.getElem_cons_zero]
    refine till_next (i := 11) (by kernel_rfl) rfl (fun K hK => ?_)
    simp only [List.getElem_toArray, List.getElem_cons_succ, List.getElem_cons_zero]
    go_simp
    refine hK.out _ _ (.inl rfl) ?_
    clear hK K
    try simp only [Act.put, List.setIfInBounds_toArray, List.set_cons_zero, List.set_cons_succ, List.getElem_toArray, List.getElem_cons_succ, List.getElem_cons_zero]
    refine till_done (by kernel_rfl) ?_ _
    refine NoPanic.normal ?_
    go_wp2
    refine bodyPost_ret (v := .agg #[.int .i64 base, .int .i64 bt, .slice a (k + s + (q.length - s)) c]) (by simp [results, Try.results23, go_sem, *]) rfl ⟨_, rfl, ?_, ?_⟩
    · rw [hp.out]
      exact newSl_mono (newSl_set (newSl_set (newSl_set (newSl_set N2.out (by omega)) (by omega)) (by omega)) (by omega)) (by omega)
    · exact bl_set (bl_set (bl_set (bl_set B3 (by omega) _) (by omega) _) (by omega) _) (by omega) _
end Go.Proofs.Yteccgpakhbogpaa.Gen
