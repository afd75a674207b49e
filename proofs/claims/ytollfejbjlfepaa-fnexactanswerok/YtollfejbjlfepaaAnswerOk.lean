/-
  FnExactAnswerOk: at every answer the program's AnswerOk answers as the specification's, and the answer reads behind the call as before. No condition.
-/
import Derived.Test.YtollfejbjlfepaaAns
namespace Go.Proofs.Ytollfejbjlfepaa.AnswerOk
open Go.ChangeShapes Go.WideShapes Go.ChangeAt Go.RowKit Go.Joins Base Gen
set_option linter.unusedVariables false

theorem own : ownKnob Try.prog.godebug = none := by kernel_rfl
theorem laidOut : laidOutB Try.prog = true := by kernel_rfl

set_option maxHeartbeats 1000000 in
theorem law_any (code n : Int) (k t : ByteArray) (hk : k.size ≤ 9223372036854775807) (ht : t.size ≤ 9223372036854775807) (w : World) :
    Calls Try.prog 4 #[.agg #[.int .i64 code, .int .i64 n, .string k, .string t]] w fun e w' => e = .returned (.bool true) ∧ Below w.heap.size w w' := by
  obtain ⟨B, hB⟩ : ∃ B, ansB code n k t = B := ⟨_, rfl⟩
  have Hspec : Hid (∀ w : World, Calls Try.prog 23 #[.agg #[.int .i64 code, .int .i64 n, .string k, .string t]] w fun e w' => e = .returned (.bool B) ∧ Below w.heap.size w w') := fun w => hB ▸ specAnswer_any code n k t hk ht w
  have Himpl : Hid (∀ w : World, Calls Try.prog 25 #[.agg #[.int .i64 code, .int .i64 n, .string k, .string t]] w fun e w' => e = .returned (.bool B) ∧ Below w.heap.size w w') := fun w => hB ▸ implAnswer_any code n k t hk ht w
  go_enter Try.func4, Try.ntmps4
  go_wp2_with fail
  refine (szAnswer_any code n k t hk ht 1048576 (by omega) (by omega) _).mono ?_
  rintro e w1 ⟨⟨r, rfl, hr⟩, g1⟩
  have p1 := (Blk.new w 44 #[.int .i64 code, .int .i64 n, .string k, .string t]).below g1 (by simp)
  obtain ⟨u0, u1, u2, u3⟩ := p1.row4
  have B1 : Below w.heap.size w w1 := by repeat (first | exact Below.refl _ _ | assumption | refine via0 (by assumption) ?_ | refine Below.drew ?_ | refine alloc0 ?_ _)
  have q1 := p1.lt
  rcases hr with rfl | ⟨hr, _⟩
  · go_wp2
    go_ret
    exact ⟨rfl, B1⟩
  have hr' : ¬ r < 0 := by omega
  go_wp2_with fail
  refine (toAnswer_any code n k t _).mono ?_
  rintro e w2 ⟨rfl, g2⟩
  have p2 := p1.below g2 p1.lt
  have B2 : Below w.heap.size w w2 := by repeat (first | exact Below.refl _ _ | assumption | refine via0 (by assumption) ?_ | refine Below.drew ?_ | refine alloc0 ?_ _)
  go_wp2_with fail
  refine (Hspec.out _).mono ?_
  rintro e w3 ⟨rfl, g3⟩
  have p3 := p2.below g3 p2.lt
  have B3 : Below w.heap.size w w3 := by repeat (first | exact Below.refl _ _ | assumption | refine via0 (by assumption) ?_ | refine Below.drew ?_ | refine alloc0 ?_ _)
  obtain ⟨v0, v1, v2, v3⟩ := p3.row4
  have q3 := p3.lt
  clear u0 u1 u2 u3
  go_wp2_with fail
  refine (toAnswer_any code n k t _).mono ?_
  rintro e w4 ⟨rfl, g4⟩
  have B4 : Below w.heap.size w w4 := by repeat (first | exact Below.refl _ _ | assumption | refine via0 (by assumption) ?_ | refine Below.drew ?_ | refine alloc0 ?_ _)
  go_wp2_with fail
  refine (Himpl.out _).mono ?_
  rintro e w5 ⟨rfl, g5⟩
  have B5 : Below w.heap.size w w5 := by repeat (first | exact Below.refl _ _ | assumption | refine via0 (by assumption) ?_ | refine Below.drew ?_ | refine alloc0 ?_ _)
  cases B
  all_goals
    go_wp2
    go_ret
    exact ⟨rfl, B5⟩

set_option maxRecDepth 100000 in
theorem contract (H : Type) (enc : TypeId × Value → H) (W : World) (base : Nat) (args : Array Value) (ds gs : List (DataW H)) (before : List MemPlace)
    (hval : ∀ (j : Nat) t v, Try.f4.params[j]? = some t → args[j]? = some v → Value.okWide Try.prog W .any base t v)
    (hW : DataW.Whole enc Try.prog Try.f4.params.toList Rows.fnExactAnswerOkSpec.vars false W args.toList ds gs before) :
    Calls Try.prog 4 args W fun e W' => ∃ v, e = .returned v ∧ Rows.fnExactAnswerOkSpec.post enc Try.prog Try.f4 false true false false W args v W' := by
  have hW' := hW
  obtain ⟨p, q, hA0, hV, rfl, hfz, hnd⟩ := hW
  have hA : DataW.TrodAll enc Try.prog W 0 (fun _ => true) true Try.f4.params.toList args.toList ds p := hA0
  rw [Try.params4] at hA hval
  obtain ⟨v0, d0, rfl, rfl, h0⟩ := trodAll_one hA
  obtain ⟨rfl, rfl⟩ := trodVars_none hV
  obtain ⟨code, n, k, t, rfl, _, _, hk, ht⟩ := openAnswer (hval 0 44 v0 rfl rfl) h0
  refine (law_any code n k t hk ht W).mono fun e W' ⟨he, hb⟩ => ?_
  subst he
  exact ⟨_, rfl, post_true laidOut (by kernel_rfl) (by kernel_rfl) Try.underlying4 rfl rfl hW' hb⟩

set_option maxRecDepth 100000 in
theorem lifted (os : Os) (started : os.Started) (H : Type) (enc : TypeId × Value → H) :
    ReturnsInHanded {} Try.checked os 4 .any (Rows.fnExactAnswerOkSpec.pre6 enc Try.prog Try.f4 Rows.fnExactAnswerOkRow.domain false) (Rows.fnExactAnswerOkSpec.post enc Try.prog Try.f4 false true false false) := by
  refine returnsInHanded_of_change (C := Try.checked) own started (by kernel_rfl) Try.func4
    (ChangeSpec.witness6 (enc := enc) (C := Try.checked) false ⟨#[], #[.agg #[.int .i64 0, .int .i64 0, .string ⟨#[]⟩, .string ⟨#[]⟩]], []⟩ 8 (by kernel_rfl) (by kernel_rfl) (by kernel_rfl) (by kernel_rfl)) ?_
  intro W base args ds gs before hval0 hW _ _
  exact contract H enc W base args ds gs before hval0 hW

set_option maxRecDepth 100000 in
theorem proved : Rows.FnExactAnswerOkSaid :=
  OpenClaim.holds_of_wide 4 Try.f4 rfl rfl rfl rfl rfl rfl rfl ⟨rfl, rfl, rfl, rfl, rfl⟩ rfl rfl rfl rfl rfl (by kernel_rfl) Try.func4 (by kernel_rfl)
    (of_decide_eq_true (by kernel_rfl)) (by unfold Func.isWrapper; first | (rw [if_pos (by decide +kernel)]; kernel_rfl) | (rw [if_neg (by decide +kernel)]; exact ⟨rfl, rfl⟩))
    (fun os started H enc _ => lifted os started H enc)
end Go.Proofs.Ytollfejbjlfepaa.AnswerOk
namespace Go.Proofs.Ytollfejbjlfepaa
theorem answerOk_holds : Rows.FnExactAnswerOkSaid := AnswerOk.proved
end Go.Proofs.Ytollfejbjlfepaa
