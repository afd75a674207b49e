/-
  FnExactLatest: at every input the program's answer is the specification's, and the row that it was handed stays as it was. No condition.
-/
import Derived.Test.YtchhocdfapkifabOpenRow
import Derived.Test.YtchhocdfapkifabRowTo
import Derived.Test.YtchhocdfapkifabRowEq
import Derived.Test.YtchhocdfapkifabSpecLatest
import Derived.Test.YtchhocdfapkifabImplLatest2
import Derived.ChangeMaps5
namespace Go.Proofs.Ytchhocdfapkifab.Latest
open Go.ChangeShapes Go.WideShapes Go.ChangeAt Go.RowKit Go.Joins Base Items
set_option linter.unusedVariables false

theorem own : ownKnob Try.prog.godebug = none := by kernel_rfl
theorem laidOut : laidOutB Try.prog = true := by kernel_rfl

set_option maxHeartbeats 2000000 in
theorem law_any (start next : Int) (key : ByteArray) (A : Option Addr) (cap : Nat) (l : List It) (hl : l.length ≤ 9223372036854775807) (hr : ∀ x ∈ l, x.right)  (w : World) (hA : At w A l) :
    Calls Try.prog 5 #[.agg #[.int .i64 start, .int .i64 next, .slice A l.length cap], .string key] w fun e w' => e = .returned (.bool true) ∧ Below w.heap.size w w' := by
  have hs : ∀ x ∈ l, x.key.size ≤ 9223372036854775807 ∧ x.text.size ≤ 9223372036854775807 := fun x hx => (hr x hx).2.2.2
  have HA : Hid (At w A l) := hA
  have Hs : Hid (∀ x ∈ l, x.key.size ≤ 9223372036854775807 ∧ x.text.size ≤ 9223372036854775807) := hs
  clear hA hs hr
  by_cases hk : (key.size : Int) > 1048576
  · go_enter Try.func5, Try.ntmps5
    go_wp2
    go_ret
    exact ⟨rfl, by repeat (first | exact Below.refl _ _ | assumption | refine via0 (by assumption) ?_ | refine Below.drew ?_ | refine alloc0 ?_ _)⟩
  have hk' : (key.size : Int) ≤ 1048576 := by omega
  clear hk
  go_enter Try.func5, Try.ntmps5
  go_wp2_with fail
  refine (szRow_any start next A cap l hl Hs.out _ (HA.out.below (by repeat (first | exact Below.refl _ _ | assumption | refine via0 (by assumption) ?_ | refine Below.drew ?_ | refine alloc0 ?_ _)))).mono ?_
  rintro e w1 ⟨r, rfl, hr, g1⟩
  have B1 : Below w.heap.size w w1 := by repeat (first | exact Below.refl _ _ | assumption | refine via0 (by assumption) ?_ | refine Below.drew ?_ | refine alloc0 ?_ _)
  have p1 := (Blk.new w 24 #[.int .i64 start, .int .i64 next, .slice A l.length cap]).below g1 (by simp)
  obtain ⟨u0, u1, u2⟩ := p1.row
  rcases hr with hr | ⟨hr, hr'⟩
  · go_wp2
    go_ret
    exact ⟨rfl, B1⟩
  have hlen : Hid (l.length ≤ 1048576) := by show l.length ≤ 1048576; omega
  go_wp2_with fail
  refine (toRow_any start next A cap l hlen.out _ (HA.out.below B1)).mono ?_
  rintro e w2 ⟨b2, rfl, g2, hb2, hb2', hi2, ht2⟩
  have B2 : Below w.heap.size w w2 := by repeat (first | exact Below.refl _ _ | assumption | refine via0 (by assumption) ?_ | refine Below.drew ?_ | refine alloc0 ?_ _)
  have p2 := p1.below g2 p1.lt
  have a2 : Hid (At w2 (some ⟨b2, 0, none⟩) l) := (.inr ⟨b2, 0, rfl, hb2', hi2⟩ : At w2 (some ⟨b2, 0, none⟩) l)
  clear hi2 ht2 u0 u1 u2
  obtain ⟨u0, u1, u2⟩ := p2.row
  go_wp2_with fail
  refine (specLatest_any start next key _ _ l hlen.out _ a2.out).mono ?_
  rintro e w3 ⟨rfl, g3⟩
  generalize hX : ((latest l key).getD It.zero) = x
  generalize hY : (latest l key).isSome = y
  dsimp only [It.v]
  have B3 : Below w.heap.size w w3 := by repeat (first | exact Below.refl _ _ | assumption | refine via0 (by assumption) ?_ | refine Below.drew ?_ | refine alloc0 ?_ _)
  have p3 := p2.below g3 p2.lt
  clear u0 u1 u2
  obtain ⟨u0, u1, u2⟩ := p3.row
  have q3 := p3.lt
  go_wp2_with fail
  refine (toRow_any start next A cap l hlen.out _ (HA.out.below (alloc0 B3 _))).mono ?_
  rintro e w4 ⟨b4, rfl, g4, hb4, hb4', hi4, ht4⟩
  have B4 : Below w.heap.size w w4 := via0 g4 (alloc0 B3 _)
  have p4 := (p3.alloc _).below g4 (p3.alloc _).lt
  have i4 := (Blk.new w3 _ _).below g4 (by simp)
  have q4 := p4.lt
  have q4' := i4.lt
  have a4 : Hid (At w4 (some ⟨b4, 0, none⟩) l) := (.inr ⟨b4, 0, rfl, hb4', hi4⟩ : At w4 (some ⟨b4, 0, none⟩) l)
  clear hi4 ht4 u0 u1 u2
  obtain ⟨u0, u1, u2⟩ := p4.row
  go_wp2_with fail
  refine (implLatest_any start next key _ _ l hlen.out _ (a4.out.below (alloc0 (Below.refl _ _) _))).mono ?_
  rintro e w5 ⟨rfl, g5⟩
  rw [hX, hY]
  dsimp only [It.v]
  have B5 : Below w.heap.size w w5 := via0 g5 (alloc0 B4 _)
  have p5 := (p4.alloc _).below g5 (p4.alloc _).lt
  have i5 := (i4.alloc _).below g5 (i4.alloc _).lt
  have x5 := (Blk.new w4 _ _).below g5 (by simp)
  have a5 : Hid (At w5 (some ⟨b4, 0, none⟩) l) := a4.out.below (via0 g5 (alloc0 (Below.refl _ _) _))
  have q5 := p5.lt
  have q5i := i5.lt
  have q5' := x5.lt
  clear u0 u1 u2
  obtain ⟨u0, u1, u2⟩ := p5.row
  obtain ⟨t0, t1, t2⟩ := x5.row
  obtain ⟨v0, v1, v2, v3, v4⟩ := i5.item
  go_wp2_with fail
  go_at_call 17
  refine (eqItem_same _ _ _ _ _ _).mono ?_
  rintro e w6 ⟨rfl, g6⟩
  have B6 : Below w.heap.size w w6 := via0 g6 (alloc0 B5 _)
  have p6 := (p5.alloc _).below g6 (p5.alloc _).lt
  have x6 := (x5.alloc _).below g6 (x5.alloc _).lt
  have a6 : Hid (At w6 (some ⟨b4, 0, none⟩) l) := a5.out.below (via0 g6 (alloc0 (Below.refl _ _) _))
  have q6 := p6.lt
  have q6' := x6.lt
  clear u0 u1 u2 t0 t1 t2
  obtain ⟨u0, u1, u2⟩ := p6.row
  obtain ⟨t0, t1, t2⟩ := x6.row
  go_wp2_with fail
  go_region_held3 (fun w' => w'.cell? ⟨w.heap.size, 0, none⟩ = some (.int .i64 start) ∧ w'.cell? ⟨w.heap.size, 1, none⟩ = some (.int .i64 next) ∧ w'.cell? ⟨w.heap.size, 2, none⟩ = some (.slice A l.length cap) ∧
      w'.cell? ⟨w4.heap.size, 0, none⟩ = some (.int .i64 start) ∧ w'.cell? ⟨w4.heap.size, 1, none⟩ = some (.int .i64 next) ∧ w'.cell? ⟨w4.heap.size, 2, none⟩ = some (.slice (some ⟨b4, 0, none⟩) l.length l.length))
    (first | (go_split_ands; refine ⟨?_, ?_, ?_, ?_, ?_, ?_⟩ <;> first | assumption | exact (k1 _ _ (by assumption)).trans (by assumption)) | go_keep)
    (first
      | (go_at_call 8; refine (toRow_any start next A cap l hlen.out _ (HA.out.below (by repeat (first | exact Below.refl _ _ | assumption | refine via0 (by assumption) ?_ | refine Below.drew ?_ | refine alloc0 ?_ _)))).mono ?_; rintro e w7 ⟨b7, rfl, g7, hb7, hb7', hi7, ht7⟩; obtain ⟨k1, m1⟩ := bcell g7; have s7 := Nat.lt_of_lt_of_le q6 g7.size; have s7' := Nat.lt_of_lt_of_le q6' g7.size; have a7 : Hid (At w7 (some ⟨b7, 0, none⟩) l) := (.inr ⟨b7, 0, rfl, hb7', hi7⟩ : At w7 (some ⟨b7, 0, none⟩) l); clear hi7 ht7)
      | (go_at_call 10; refine (eqRow_same start next _ _ _ _ l hl _ (a6.out.below (via0 (by assumption) (Below.drew (Below.refl _ _)))) a7.out).mono ?_; rintro e w8 ⟨rfl, g8⟩; obtain ⟨k1, m1⟩ := bcell g8))
  all_goals
    go_wp2
    go_ret
    exact ⟨rfl, by repeat (first | exact Below.refl _ _ | assumption | refine via0 (by assumption) ?_ | refine Below.drew ?_ | refine alloc0 ?_ _)⟩

theorem contract (H : Type) (enc : TypeId × Value → H) (W : World) (base : Nat) (args : Array Value) (ds gs : List (DataW H)) (before : List MemPlace)
    (hval : ∀ (j : Nat) t v, Try.f5.params[j]? = some t → args[j]? = some v → Value.okWide Try.prog W .any base t v)
    (hW : DataW.Whole enc Try.prog Try.f5.params.toList Rows.fnExactLatestSpec.vars false W args.toList ds gs before) :
    Calls Try.prog 5 args W fun e W' => ∃ v, e = .returned v ∧ Rows.fnExactLatestSpec.post enc Try.prog Try.f5 false true false false W args v W' := by
  have hW' := hW
  obtain ⟨p, q, hA0, hV, rfl, hfz, hnd⟩ := hW
  have hA : DataW.TrodAll enc Try.prog W 0 (fun _ => true) true Try.f5.params.toList args.toList ds p := hA0
  rw [Try.params5] at hA hval
  obtain ⟨v0, v1, d0, d1, p0, p1, rfl, rfl, rfl, h0, h1⟩ := trodAll_two hA
  obtain ⟨rfl, rfl⟩ := trodVars_none hV
  obtain ⟨start, next, A, cap, l, rfl, _, hn, hl, hr, hat⟩ := open_row (hval 0 24 v0 rfl rfl) h0
  obtain ⟨key, rfl, _, _, _⟩ := Go.ChangeMaps.open_string Try.underlying9 (hval 1 9 v1 rfl rfl) h1
  refine (law_any start next key A cap l hl hr W hat).mono fun e W' ⟨he, hb⟩ => ?_
  subst he
  exact ⟨_, rfl, post_true laidOut (by kernel_rfl) (by kernel_rfl) Try.underlying4 rfl rfl hW' hb⟩

set_option maxRecDepth 100000 in
theorem lifted (os : Os) (started : os.Started) (H : Type) (enc : TypeId × Value → H) :
    ReturnsInHanded {} Try.checked os 5 .any (Rows.fnExactLatestSpec.pre6 enc Try.prog Try.f5 Rows.fnExactLatestRow.domain false) (Rows.fnExactLatestSpec.post enc Try.prog Try.f5 false true false false) := by
  refine returnsInHanded_of_change (C := Try.checked) own started (by kernel_rfl) Try.func5
    (ChangeSpec.witness6 (enc := enc) (C := Try.checked) false ⟨#[], #[.agg #[.int .i64 0, .int .i64 0, .slice none 0 0], .string ⟨#[]⟩], []⟩ 8 (by kernel_rfl) (by kernel_rfl) (by kernel_rfl) (by kernel_rfl)) ?_
  intro W base args ds gs before hval0 hW _ _
  exact contract H enc W base args ds gs before hval0 hW

theorem proved : Rows.FnExactLatestSaid :=
  OpenClaim.holds_of_wide 5 Try.f5 rfl rfl rfl rfl rfl rfl rfl ⟨rfl, rfl, rfl, rfl, rfl⟩ rfl rfl rfl rfl rfl (by kernel_rfl) Try.func5 (by kernel_rfl)
    (of_decide_eq_true (by kernel_rfl)) (by unfold Func.isWrapper; first | (rw [if_pos (by decide +kernel)]; kernel_rfl) | (rw [if_neg (by decide +kernel)]; exact ⟨rfl, rfl⟩))
    (fun os started H enc _ => lifted os started H enc)
end Go.Proofs.Ytchhocdfapkifab.Latest
namespace Go.Proofs.Ytchhocdfapkifab
theorem latest_holds : Rows.FnExactLatestSaid := Latest.proved
end Go.Proofs.Ytchhocdfapkifab
