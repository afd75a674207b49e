/-
  FnExactRowOk: at every row the program's RowOk answers as the specification's, and the row that it was handed stays as it was. No condition.
-/
import Derived.Test.YtchhocdfapkifaaOpenRow
import Derived.Test.YtchhocdfapkifaaRowTo
import Derived.Test.YtchhocdfapkifaaRowEq
import Derived.Test.YtchhocdfapkifaaSpecRowOk2
import Derived.Test.YtchhocdfapkifaaImplRowOk
namespace Go.Proofs.Ytchhocdfapkifaa.RowOk
open Go.ChangeShapes Go.WideShapes Go.ChangeAt Go.RowKit Go.Joins Base Items
set_option linter.unusedVariables false

theorem own : ownKnob Try.prog.godebug = none := by kernel_rfl
theorem laidOut : laidOutB Try.prog = true := by kernel_rfl

set_option maxHeartbeats 1000000 in
theorem law_any (start next : Int) (A : Option Addr) (cap : Nat) (l : List It) (hn : I64 next) (hl : l.length ≤ 9223372036854775807) (hr : ∀ x ∈ l, x.right) (w : World) (hA : At w A l) :
    Calls Try.prog 6 #[.agg #[.int .i64 start, .int .i64 next, .slice A l.length cap]] w fun e w' => e = .returned (.bool true) ∧ Below w.heap.size w w' := by
  have hs : ∀ x ∈ l, x.key.size ≤ 9223372036854775807 ∧ x.text.size ≤ 9223372036854775807 := fun x hx => (hr x hx).2.2.2
  have HA : Hid (At w A l) := hA
  have Hs : Hid (∀ x ∈ l, x.key.size ≤ 9223372036854775807 ∧ x.text.size ≤ 9223372036854775807) := hs
  have Hn : Hid (I64 next) := hn
  clear hA hs hr hn
  go_enter Try.func6, Try.ntmps6
  go_wp2_with fail
  go_at_call 28
  refine (szRow_any start next A cap l hl Hs.out _ (HA.out.below (by repeat (first | exact Below.refl _ _ | assumption | refine via0 (by assumption) ?_ | refine Below.drew ?_ | refine alloc0 ?_ _)))).mono ?_
  rintro e w1 ⟨r, rfl, hr, g1⟩
  have B1 : Below w.heap.size w w1 := by repeat (first | exact Below.refl _ _ | assumption | refine via0 (by assumption) ?_ | refine Below.drew ?_ | refine alloc0 ?_ _)
  have p1 := (Blk.new w 49 #[.int .i64 start, .int .i64 next, .slice A l.length cap]).below g1 (by simp)
  obtain ⟨u0, u1, u2⟩ := p1.row
  rcases hr with hr | ⟨hr, hr'⟩
  · go_wp2
    go_ret
    exact ⟨rfl, B1⟩
  have hlen : Hid (l.length ≤ 1048576) := by show l.length ≤ 1048576; omega
  go_wp2_with fail
  go_at_call 29
  refine (toRow_any start next A cap l hlen.out _ (HA.out.below B1)).mono ?_
  rintro e w2 ⟨b2, rfl, g2, hb2, hb2', hi2, ht2⟩
  have B2 : Below w.heap.size w w2 := by repeat (first | exact Below.refl _ _ | assumption | refine via0 (by assumption) ?_ | refine Below.drew ?_ | refine alloc0 ?_ _)
  have p2 := p1.below g2 p1.lt
  obtain ⟨u0, u1, u2⟩ := p2.row
  have a2 : Hid (At w2 (some ⟨b2, 0, none⟩) l) := (.inr ⟨b2, 0, rfl, hb2', hi2⟩ : At w2 (some ⟨b2, 0, none⟩) l)
  clear hi2 ht2
  go_wp2_with fail
  go_at_call 21
  refine (specRowOk_any start next _ _ l hl Hs.out Hn.out.1 Hn.out.2 _ a2.out).mono ?_
  rintro e w3 ⟨rfl, g3⟩
  have B3 : Below w.heap.size w w3 := by repeat (first | exact Below.refl _ _ | assumption | refine via0 (by assumption) ?_ | refine Below.drew ?_ | refine alloc0 ?_ _)
  have p3 := p2.below g3 p2.lt
  obtain ⟨u0, u1, u2⟩ := p3.row
  go_wp2_with fail
  go_at_call 29
  refine (toRow_any start next A cap l hlen.out _ (HA.out.below B3)).mono ?_
  rintro e w4 ⟨b4, rfl, g4, hb4, hb4', hi4, ht4⟩
  have B4 : Below w.heap.size w w4 := by repeat (first | exact Below.refl _ _ | assumption | refine via0 (by assumption) ?_ | refine Below.drew ?_ | refine alloc0 ?_ _)
  have p4 := p3.below g4 p3.lt
  obtain ⟨u0, u1, u2⟩ := p4.row
  have a4 : Hid (At w4 (some ⟨b4, 0, none⟩) l) := (.inr ⟨b4, 0, rfl, hb4', hi4⟩ : At w4 (some ⟨b4, 0, none⟩) l)
  clear hi4 ht4
  go_wp2_with fail
  go_at_call 20
  refine (implRowOk_any start next _ _ l hlen.out Hs.out _ (a4.out.below (by repeat (first | exact Below.refl _ _ | assumption | refine via0 (by assumption) ?_ | refine Below.drew ?_ | refine alloc0 ?_ _)))).mono ?_
  rintro e w5 ⟨rfl, g5⟩
  have B5 : Below w.heap.size w w5 := by repeat (first | exact Below.refl _ _ | assumption | refine via0 (by assumption) ?_ | refine Below.drew ?_ | refine alloc0 ?_ _)
  have p5 := (p4.alloc _).below g5 (p4.alloc _).lt
  have x5 := (Blk.new w4 _ _).below g5 (by simp)
  have a5 : Hid (At w5 (some ⟨b4, 0, none⟩) l) := a4.out.below (via0 g5 (alloc0 (Below.refl _ _) _))
  have q5 := p5.lt
  have q5' := x5.lt
  obtain ⟨u0, u1, u2⟩ := p5.row
  obtain ⟨t0, t1, t2⟩ := x5.row
  go_wp2_with fail
  go_region_held3 (fun w' => w'.cell? ⟨w.heap.size, 0, none⟩ = some (.int .i64 start) ∧ w'.cell? ⟨w.heap.size, 1, none⟩ = some (.int .i64 next) ∧ w'.cell? ⟨w.heap.size, 2, none⟩ = some (.slice A l.length cap) ∧
      w'.cell? ⟨w4.heap.size, 0, none⟩ = some (.int .i64 start) ∧ w'.cell? ⟨w4.heap.size, 1, none⟩ = some (.int .i64 next) ∧ w'.cell? ⟨w4.heap.size, 2, none⟩ = some (.slice (some ⟨b4, 0, none⟩) l.length l.length))
    (first | (go_split_ands; refine ⟨?_, ?_, ?_, ?_, ?_, ?_⟩ <;> first | assumption | exact (k1 _ _ (by assumption)).trans (by assumption)) | go_keep)
    (first
      | (go_at_call 29; refine (toRow_any start next A cap l hlen.out _ (HA.out.below (by repeat (first | exact Below.refl _ _ | assumption | refine via0 (by assumption) ?_ | refine Below.drew ?_ | refine alloc0 ?_ _)))).mono ?_; rintro e w6 ⟨b6, rfl, g6, hb6, hb6', hi6, ht6⟩; obtain ⟨k1, m1⟩ := bcell g6; have s6 := Nat.lt_of_lt_of_le q5 g6.size; have s6' := Nat.lt_of_lt_of_le q5' g6.size; have a6 : Hid (At w6 (some ⟨b6, 0, none⟩) l) := (.inr ⟨b6, 0, rfl, hb6', hi6⟩ : At w6 (some ⟨b6, 0, none⟩) l); clear hi6 ht6)
      | (go_at_call 30; refine (eqRow_same start next _ _ _ _ l hl _ (a5.out.below (via0 (by assumption) (Below.drew (Below.refl _ _)))) a6.out).mono ?_; rintro e w7 ⟨rfl, g7⟩; obtain ⟨k1, m1⟩ := bcell g7))
  all_goals
    go_wp2
    go_ret
    exact ⟨rfl, by repeat (first | exact Below.refl _ _ | assumption | refine via0 (by assumption) ?_ | refine Below.drew ?_ | refine alloc0 ?_ _)⟩

theorem contract (H : Type) (enc : TypeId × Value → H) (W : World) (base : Nat) (args : Array Value) (ds gs : List (DataW H)) (before : List MemPlace)
    (hval : ∀ (j : Nat) t v, Try.f6.params[j]? = some t → args[j]? = some v → Value.okWide Try.prog W .any base t v)
    (hW : DataW.Whole enc Try.prog Try.f6.params.toList Rows.fnExactRowOkSpec.vars false W args.toList ds gs before) :
    Calls Try.prog 6 args W fun e W' => ∃ v, e = .returned v ∧ Rows.fnExactRowOkSpec.post enc Try.prog Try.f6 false true false false W args v W' := by
  have hW' := hW
  obtain ⟨p, q, hA0, hV, rfl, hfz, hnd⟩ := hW
  have hA : DataW.TrodAll enc Try.prog W 0 (fun _ => true) true Try.f6.params.toList args.toList ds p := hA0
  rw [Try.params6] at hA hval
  obtain ⟨v0, d0, rfl, rfl, h0⟩ := trodAll_one hA
  obtain ⟨rfl, rfl⟩ := trodVars_none hV
  obtain ⟨start, next, A, cap, l, rfl, _, hn, hl, hr, hat⟩ := open_row (hval 0 49 v0 rfl rfl) h0
  refine (law_any start next A cap l hn hl hr W hat).mono fun e W' ⟨he, hb⟩ => ?_
  subst he
  exact ⟨_, rfl, post_true laidOut (by kernel_rfl) (by kernel_rfl) Try.underlying4 rfl rfl hW' hb⟩

set_option maxRecDepth 100000 in
theorem lifted (os : Os) (started : os.Started) (H : Type) (enc : TypeId × Value → H) :
    ReturnsInHanded {} Try.checked os 6 .any (Rows.fnExactRowOkSpec.pre6 enc Try.prog Try.f6 Rows.fnExactRowOkRow.domain false) (Rows.fnExactRowOkSpec.post enc Try.prog Try.f6 false true false false) := by
  refine returnsInHanded_of_change (C := Try.checked) own started (by kernel_rfl) Try.func6
    (ChangeSpec.witness6 (enc := enc) (C := Try.checked) false ⟨#[], #[.agg #[.int .i64 0, .int .i64 0, .slice none 0 0]], []⟩ 8 (by kernel_rfl) (by kernel_rfl) (by kernel_rfl) (by kernel_rfl)) ?_
  intro W base args ds gs before hval0 hW _ _
  exact contract H enc W base args ds gs before hval0 hW

theorem proved : Rows.FnExactRowOkSaid :=
  OpenClaim.holds_of_wide 6 Try.f6 rfl rfl rfl rfl rfl rfl rfl ⟨rfl, rfl, rfl, rfl, rfl⟩ rfl rfl rfl rfl rfl (by kernel_rfl) Try.func6 (by kernel_rfl)
    (of_decide_eq_true (by kernel_rfl)) (by unfold Func.isWrapper; first | (rw [if_pos (by decide +kernel)]; kernel_rfl) | (rw [if_neg (by decide +kernel)]; exact ⟨rfl, rfl⟩))
    (fun os started H enc _ => lifted os started H enc)
end Go.Proofs.Ytchhocdfapkifaa.RowOk
namespace Go.Proofs.Ytchhocdfapkifaa
theorem rowOk_holds : Rows.FnExactRowOkSaid := RowOk.proved
end Go.Proofs.Ytchhocdfapkifaa
