/-
  The program's rowOf.lastNumbers at this seat: a new map, which has of each key the last number.
-/
import Derived.Test.YtnmbbkagjpmhdaaBlks
import Derived.Test.YtnmbbkagjpmhdaaRoundOp
import Derived.Test.YtnmbbkagjpmhdaaGen
import Derived.Maps.OwnIn
import Derived.Maps.Views
namespace Go.Proofs.Ytnmbbkagjpmhdaa.Items
open Go.ChangeShapes Go.WideShapes Go.ChangeAt Go.RowKit Go.Shelf Base
open Gen (region_round round_taken round_next round_next2 round_done hidP)
set_option linter.unusedVariables false
set_option linter.unusedSimpArgs false
attribute [local go_sem] Oper.semAt_some

/-- The map's datum when these have come. -/
def lastD (l : List It) : DataW Unit := l.foldl (fun D x => D.put (.string x.key.data.toList) (.lit (.int .i64 x.off))) (.map [])
theorem lastD_snoc (l : List It) (x : It) : lastD (l ++ [x]) = (lastD l).put (.string x.key.data.toList) (.lit (.int .i64 x.off)) := by simp [lastD]

theorem grownBy_drew (W : World) (row : Option Nat) : W.grownBy W.drew row := ⟨rfl, rfl, rfl, Nat.le_refl _, fun _ _ _ => rfl⟩
theorem makeMap_hint {P : Program} (t : TypeId) (n : Nat) {k e : TypeId} (hu : P.underlying t = some (.map k e)) (w : World) : (Instr.makeMap t (some (.int .i64 (n : Int)))).run P w = .ok (.map (some w.heap.size)) (w.alloc (.map #[] 0)) := by
  simp [Instr.makeMap, run_underlying hu, asInt, asIntOf, Result.andThen]

set_option maxRecDepth 100000 in
set_option maxHeartbeats 400000 in
theorem lastNumbers_any (start next : Int) (A : Option Addr) (cap : Nat) (l : List It) (hl : l.length ≤ 1048576) (hr : ∀ x ∈ l, x.key.size ≤ 9223372036854775807 ∧ (Lit.int .i64 x.off).wf = true) (w : World) (hA : l = [] ∨ ∃ b o, A = some ⟨b, o, none⟩ ∧ b < w.heap.size ∧ In w b o l) :
    Calls Try.prog 66 #[.agg #[.int .i64 start, .int .i64 next, .slice A l.length cap]] w fun e w' => e = .returned (.map (some (w.heap.size + 1))) ∧ w'.ownsMap Try.prog 9 (plainElem (H := Unit) Try.prog 3) (w.heap.size + 1) l.length (lastD l) ∧ Below w.heap.size w w' := by
  refine (callsIn_wide (n := 9)).1 ?_
  have hmm := makeMap_hint (P := Try.prog) 94 l.length Try.underlying94
  refine callsIn_of_wp_marks Try.func66 rfl trivial ?_ rfl
  simp only [Try.ntmps66]
  simp only [List.size_toArray, List.length_cons, List.length_nil, Nat.reduceAdd, Nat.reduceSub, Array.replicate_succ, Array.replicate_zero, List.push_toArray, List.append_toArray, List.nil_append, List.cons_append]
  gi_wp2_with (refine ⟨trivial, ?_⟩; gi_at_call 59; refine (told_in Fence.wide _ trivial rfl _ _ _ _ _ _).mono ?_; rintro e w' ⟨rfl, rfl⟩)
  have hm0 := (((World.ownsMap_made (w.alloc (.cells #[.int .i64 start, .int .i64 next, .slice A l.length cap] 63)) Try.prog 9 (plainElem (H := Unit) Try.prog 3)).alloc (.cells #[.map (some (w.heap.size + 1))] 94)).alloc (.cells #[.int .i64 start, .int .i64 next, .slice A l.length cap] 63))
  have b2 := (Blk.new ((w.alloc (.cells #[.int .i64 start, .int .i64 next, .slice A l.length cap] 63)).alloc (.map #[] 0)) 94 #[.map (some (w.heap.size + 1))]).alloc (.cells #[.int .i64 start, .int .i64 next, .slice A l.length cap] 63)
  have b3 := Blk.new (((w.alloc (.cells #[.int .i64 start, .int .i64 next, .slice A l.length cap] 63)).alloc (.map #[] 0)).alloc (.cells #[.map (some (w.heap.size + 1))] 94)) 63 #[.int .i64 start, .int .i64 next, .slice A l.length cap]
  have hB0 : Below w.heap.size w ((((w.alloc (.cells #[.int .i64 start, .int .i64 next, .slice A l.length cap] 63)).alloc (.map #[] 0)).alloc (.cells #[.map (some (w.heap.size + 1))] 94)).alloc (.cells #[.int .i64 start, .int .i64 next, .slice A l.length cap] 63)) := by repeat (first | exact Below.refl _ _ | refine alloc0 ?_ _)
  have hsz : ((((w.alloc (.cells #[.int .i64 start, .int .i64 next, .slice A l.length cap] 63)).alloc (.map #[] 0)).alloc (.cells #[.map (some (w.heap.size + 1))] 94)).alloc (.cells #[.int .i64 start, .int .i64 next, .slice A l.length cap] 63)).heap.size = w.heap.size + 4 := by simp
  simp only [World.size_alloc] at hm0 b2 b3
  generalize ((((w.alloc (.cells #[.int .i64 start, .int .i64 next, .slice A l.length cap] 63)).alloc (.map #[] 0)).alloc (.cells #[.map (some (w.heap.size + 1))] 94)).alloc (.cells #[.int .i64 start, .int .i64 next, .slice A l.length cap] 63)) = W0 at hm0 b2 b3 hB0 hsz ⊢
  have hA' : l = [] ∨ ∃ b o, A = some ⟨b, o, none⟩ ∧ b < w.heap.size ∧ In W0 b o l := hA.imp id fun ⟨b, o, e, hb, hi⟩ => ⟨b, o, e, hb, hi.below hb hB0⟩
  have Hr : Hid (∀ x ∈ l, x.key.size ≤ 9223372036854775807 ∧ (Lit.int .i64 x.off).wf = true) := hr
  clear hr
  refine wpIn_rangeFunc_ownH rfl (by omega) (gf := 72) (lb := #[.pointer (some ⟨w.heap.size + 1 + 1 + 1, 0, none⟩)]) rfl trivial (enters_of Try.func72 (by kernel_rfl) rfl)
    (told_stops Fence.wide _ trivial rfl (by omega) (w.heap.size + 1 + 1 + 1) w.heap.size cap A l (by omega) W0 (by omega) (by omega) (b3.cell rfl) hA') belowK_t (belowK_b (by omega)) (Below.refl _ _) (fun _ => rfl)
    (fun pre W => W.ownsMap Try.prog 9 (plainElem (H := Unit) Try.prog 3) (w.heap.size + 1) (vals pre).length (lastD (vals pre)) ∧ Blk W (w.heap.size + 1 + 1) 94 #[.map (some (w.heap.size + 1))] ∧ w.heap.size + 4 ≤ W.heap.size ∧ Below w.heap.size w W)
    (fun _ _ _ => False)
    (fun s X Y row hs hg hr => by
      obtain ⟨em, b2, hW4, hB⟩ := hs
      exact ⟨em.kept hg (fun e => by have := (hr _ e.symm).1; omega), blk_abides b2 hg hr, Nat.le_trans hW4 hg.size, ownFrom_below (β := Unit) (Nat.le_refl _) (by omega) () X Y row hB hg hr⟩)
    (fun c s X Y row hs hg hr => hs.elim)
    ⟨hm0, b2, by omega, hB0⟩
    (fun x a' W => ∃ Bx, w.heap.size + 1 + 1 + 1 < Bx ∧ Blk W Bx 34 #[.int .i64 x.1.off, .string x.1.key, .string x.1.text, .int .i64 x.1.who, .int .i64 x.1.time] ∧ a' = { tmps := #[.agg #[.int .i64 start, .int .i64 next, .slice A l.length cap], .pointer (some ⟨w.heap.size, 0, none⟩), .map none, .pointer (some ⟨w.heap.size + 1 + 1, 0, none⟩), .pointer (some ⟨Bx, 0, none⟩), .pointer (some ⟨w.heap.size, 2, none⟩), .slice A l.length cap, .int .i64 l.length, .map (some (w.heap.size + 1)), .agg #[.int .i64 start, .int .i64 next, .slice A l.length cap], .func (.func 72) #[] #[.pointer (some ⟨w.heap.size + 1 + 1 + 1, 0, none⟩)], x.1.v, undef, undef, undef, undef, undef, undef, undef, undef], defers := [] })
    (fun x a' _ X Y row hs hg hr => by obtain ⟨Bx, h1, h2, h3⟩ := hs; exact ⟨Bx, h1, blk_abides h2 hg hr, h3⟩)
    ?assign ?body ?done ?stop
  case assign =>
    rintro l' pre x W K ⟨em, b2, hW4, hB⟩ hK
    dsimp only [It.v] at hK ⊢
    gi_wp2
    exact hK _ _ ((KeepsOthers.alloc _ _).from _) ((Below.refl _ W).alloc (by omega) _) ⟨em.alloc _, b2.alloc _, by simp; omega, hB.alloc hB.size _⟩ ⟨W.heap.size, by omega, Blk.new W _ _, rfl⟩
  case body =>
    rintro l' pre x a' W hl' hr' ⟨em, b2, hW4, hB⟩ ⟨Bx, hBx, bX, rfl⟩ hlt
    obtain ⟨x0, x1, x2, x3, x4⟩ := bX.item
    obtain ⟨cM, fM⟩ := b2.one
    have hm := name_of x.1
    have hm2 := number_of x.1
    have hsW := hB.size
    have q2 := b2.lt
    have qx := bX.lt
    dsimp only [It.v]
    have hmx : Try.prog.follows .mixedOrders = true := by kernel_rfl
    have hd : 1 ≤ 9 - 1 - 1 := by omega
    have hkey := WideMaps.keyOf_string_mk (P := Try.prog) Try.underlying9 (s := x.1.key) (by unfold maxLen; have := (Hr.out x.1 x.2).1; omega)
    have hvl : (vals pre).length < maxLen := by
      have : (vals pre).length = pre.length := by simp [vals]
      unfold maxLen; omega
    obtain ⟨w1, hrun, hown1, hgrow1⟩ := ((em.alloc (.cells #[.int .i64 x.1.off, .string x.1.key, .string x.1.text, .int .i64 x.1.who, .int .i64 x.1.time] 34)).alloc (.cells #[.int .i64 x.1.off, .string x.1.key, .string x.1.text, .int .i64 x.1.who, .int .i64 x.1.time] 34)).drew.update (Maps.string_keyed Try.underlying9) Try.underlying94 hvl hkey (plainElem_int (H := Unit) Try.underlying3 (Hr.out x.1 x.2).2)
    have HO1 : Hid (w1.ownsMap Try.prog 9 (plainElem (H := Unit) Try.prog 3) (w.heap.size + 1) ((vals pre).length + 1) _) := hown1
    have HG1 : Hid (World.grownBy _ w1 (some (w.heap.size + 1))) := hgrow1
    have HE : Hid (W.ownsMap Try.prog 9 (plainElem (H := Unit) Try.prog 3) (w.heap.size + 1) (vals pre).length (lastD (vals pre))) := em
    have HBB : Hid (Below w.heap.size w W) := hB
    clear hown1 hgrow1 em hB hkey hvl
    gi_wp2
    have hrun := hidP hrun
    refine region_round 7 (fun (w' : World) => w'.cell? ⟨w.heap.size + 1 + 1, 0, none⟩ = some (.map (some (w.heap.size + 1))) ∧ w'.cell? ⟨Bx, 0, none⟩ = some (.int .i64 x.1.off) ∧ w'.cell? ⟨Bx, 1, none⟩ = some (.string x.1.key) ∧ w'.cell? ⟨Bx, 2, none⟩ = some (.string x.1.text) ∧ w'.cell? ⟨Bx, 3, none⟩ = some (.int .i64 x.1.who) ∧ w'.cell? ⟨Bx, 4, none⟩ = some (.int .i64 x.1.time)) (by assumption) ?_
    have hH : (fun (w' : World) => w'.cell? ⟨w.heap.size + 1 + 1, 0, none⟩ = some (.map (some (w.heap.size + 1))) ∧ w'.cell? ⟨Bx, 0, none⟩ = some (.int .i64 x.1.off) ∧ w'.cell? ⟨Bx, 1, none⟩ = some (.string x.1.key) ∧ w'.cell? ⟨Bx, 2, none⟩ = some (.string x.1.text) ∧ w'.cell? ⟨Bx, 3, none⟩ = some (.int .i64 x.1.who) ∧ w'.cell? ⟨Bx, 4, none⟩ = some (.int .i64 x.1.time)) _ := ⟨cM, x0, x1, x2, x3, x4⟩
    refine' round_taken (i := 0) (v := _) (by kernel_rfl) (by kernel_rfl) rfl (by kernel_rfl) (by decide) (by kernel_rfl) (by kernel_rfl) (fun _ _ _ h => h) (Or.inl ⟨by rfl, ?hy1⟩) (fun _ => rfl) (by assumption) ?rest1
    case hy1 => (intro w hSw; (try dsimp only at hSw); go_simp <;> with_reducible rfl)
    try simp only [Act.put, List.setIfInBounds_toArray, List.set_cons_zero, List.set_cons_succ, List.getElem_toArray, List.getElem_cons_succ, List.getElem_cons_zero]
    refine' round_taken (i := 1) (v := _) (by kernel_rfl) (by kernel_rfl) rfl (by kernel_rfl) (by decide) (by kernel_rfl) (by kernel_rfl) (fun _ _ _ h => h) (Or.inl ⟨by rfl, ?hy2⟩) (fun _ => rfl) (by assumption) ?rest2
    case hy2 => (intro w hSw; (try dsimp only at hSw); go_simp <;> with_reducible rfl)
    try simp only [Act.put, List.setIfInBounds_toArray, List.set_cons_zero, List.set_cons_succ, List.getElem_toArray, List.getElem_cons_succ, List.getElem_cons_zero]
    refine' round_taken (i := 4) (v := _) (by kernel_rfl) (by kernel_rfl) rfl (by kernel_rfl) (by decide) (by kernel_rfl) (by kernel_rfl) (fun _ _ _ h => h) (Or.inl ⟨by rfl, ?hy3⟩) (fun _ => rfl) (by assumption) ?rest3
    case hy3 => (intro w hSw; (try dsimp only at hSw); go_simp <;> with_reducible rfl)
    try simp only [Act.put, List.setIfInBounds_toArray, List.set_cons_zero, List.set_cons_succ, List.getElem_toArray, List.getElem_cons_succ, List.getElem_cons_zero]
    refine' round_taken (i := 2) (v := _) (by kernel_rfl) (by kernel_rfl) rfl (by kernel_rfl) (by decide) (by kernel_rfl) (by kernel_rfl) (fun _ _ _ h => h) (Or.inl ⟨by rfl, ?hy4⟩) (fun _ => rfl) (by assumption) ?rest4
    case hy4 => (intro w hSw; (try dsimp only at hSw); go_simp <;> with_reducible rfl)
    try simp only [Act.put, List.setIfInBounds_toArray, List.set_cons_zero, List.set_cons_succ, List.getElem_toArray, List.getElem_cons_succ, List.getElem_cons_zero]
    refine' round_taken (i := 5) (v := _) (by kernel_rfl) (by kernel_rfl) rfl (by kernel_rfl) (by decide) (by kernel_rfl) (by kernel_rfl) (fun _ _ _ h => h) (Or.inl ⟨by rfl, ?hy5⟩) (fun _ => rfl) (by assumption) ?rest5
    case hy5 => (intro w hSw; (try dsimp only at hSw); go_simp <;> with_reducible rfl)
    try simp only [Act.put, List.setIfInBounds_toArray, List.set_cons_zero, List.set_cons_succ, List.getElem_toArray, List.getElem_cons_succ, List.getElem_cons_zero]
    refine round_next (i := 3) (by kernel_rfl) rfl (fun K hK => ?_)
    simp only [List.getElem_toArray, List.getElem_cons_succ, List.getElem_cons_zero]
    (go_simp; gi_wp2_with (refine ⟨trivial, ?_⟩; gi_at_call 91; refine (CallsIn.inRound l' (callsIn_wide.2 (name_any x.1 _))).mono ?_; rintro e w' ⟨rfl, rfl⟩))
    refine hK.out _ _ (.inr ⟨(b2.alloc (.cells #[.int .i64 x.1.off, .string x.1.key, .string x.1.text, .int .i64 x.1.who, .int .i64 x.1.time] 34)).drew.one.1, (bX.alloc (.cells #[.int .i64 x.1.off, .string x.1.key, .string x.1.text, .int .i64 x.1.who, .int .i64 x.1.time] 34)).drew.item⟩) ?_
    clear hK K
    try simp only [Act.put, List.setIfInBounds_toArray, List.set_cons_zero, List.set_cons_succ, List.getElem_toArray, List.getElem_cons_succ, List.getElem_cons_zero]
    refine round_next (i := 6) (by kernel_rfl) rfl (fun K hK => ?_)
    simp only [List.getElem_toArray, List.getElem_cons_succ, List.getElem_cons_zero]
    (go_simp; gi_wp2_with (refine ⟨trivial, ?_⟩; gi_at_call 92; refine (CallsIn.inRound l' (callsIn_wide.2 (number_any x.1 _))).mono ?_; rintro e w' ⟨rfl, rfl⟩))
    refine hK.out _ _ (.inr ⟨((b2.alloc (.cells #[.int .i64 x.1.off, .string x.1.key, .string x.1.text, .int .i64 x.1.who, .int .i64 x.1.time] 34)).alloc (.cells #[.int .i64 x.1.off, .string x.1.key, .string x.1.text, .int .i64 x.1.who, .int .i64 x.1.time] 34)).drew.one.1, ((bX.alloc (.cells #[.int .i64 x.1.off, .string x.1.key, .string x.1.text, .int .i64 x.1.who, .int .i64 x.1.time] 34)).alloc (.cells #[.int .i64 x.1.off, .string x.1.key, .string x.1.text, .int .i64 x.1.who, .int .i64 x.1.time] 34)).drew.item⟩) ?_
    clear hK K
    try simp only [Act.put, List.setIfInBounds_toArray, List.set_cons_zero, List.set_cons_succ, List.getElem_toArray, List.getElem_cons_succ, List.getElem_cons_zero]
    refine round_next (i := 7) (by kernel_rfl) rfl (fun K hK => ?_)
    simp only [List.getElem_toArray, List.getElem_cons_succ, List.getElem_cons_zero]
    go_simp
    refine hK.out _ _ (.inl rfl) ?_
    clear hK K
    try simp only [Act.put, List.setIfInBounds_toArray, List.set_cons_zero, List.set_cons_succ, List.getElem_toArray, List.getElem_cons_succ, List.getElem_cons_zero]
    refine round_done (by kernel_rfl) ?_ _
    gi_wp2
    have hgrow1 := HG1.out
    have hB := HBB.out
    have hgr : W.grownBy w1 (some (w.heap.size + 1)) := ((World.grownBy_alloc W (.cells #[.int .i64 x.1.off, .string x.1.key, .string x.1.text, .int .i64 x.1.who, .int .i64 x.1.time] 34) _).trans (World.grownBy_alloc _ (.cells #[.int .i64 x.1.off, .string x.1.key, .string x.1.text, .int .i64 x.1.who, .int .i64 x.1.time] 34) _)).trans ((grownBy_drew _ _).trans hgrow1)
    have hBW : Below w.heap.size W w1 := (Below.refl _ W).grown hgr (by omega) (fun k e => by cases e; omega)
    refine ⟨KeepsFrom.of_grownBy hgr (fun j e => by cases e; omega), hBW, ?_, ?_, ?_, hB.trans hBW⟩
    · rw [vals_snoc, lastD_snoc, List.length_append]; exact HO1.out
    · exact b2.kept hgr (by simp)
    · exact Nat.le_trans hW4 hgr.size
  case done =>
    rintro D ys W hD hys ⟨em, b2, hW4, hB⟩ hK
    obtain ⟨cM, fM⟩ := b2.one
    gi_wp2
    refine ⟨by simp, .inl ⟨_, _, rfl, run_takeDeferred hK, ?_⟩⟩
    rw [hys] at em
    exact ⟨_, results_tmp rfl _ _ _, rfl, em.kept (grownBy_putObj' _ D _) (fun e => by cases e; omega), hB.trans (belowK_b (w := w) (Nat.le_refl _) W D _ _ (by omega) hK rfl rfl)⟩
  case stop =>
    rintro D c pre W hD hpre h hK
    exact h.elim
end Go.Proofs.Ytnmbbkagjpmhdaa.Items
