/-
  FnExactOwnerOf: at every input the program's answer is the specification's, field by field; what it was handed stays as it was; its answer owns its memory. No condition.
-/
import Derived.Test.YtnjefllameilbaaOwner
import Derived.ChangeMaps5
namespace Go.Proofs.Ytnjefllameilbaa.OwnerOf
open Go.ChangeShapes Go.WideShapes Go.ChangeAt Go.RowKit Go.Joins Go.Deep Base Gen
set_option linter.unusedVariables false

theorem own : ownKnob Try.prog.godebug = none := by kernel_rfl
theorem laidOut : laidOutB Try.prog = true := by kernel_rfl

set_option maxRecDepth 100000 in
set_option maxHeartbeats 4000000 in
theorem law_any (gen row : Int) (A B C : Option Addr) (ca cb cc : Nat) (m b o : List Int) (hl : m.length ≤ 9223372036854775807 ∧ b.length ≤ 9223372036854775807 ∧ o.length ≤ 9223372036854775807) (hr : (∀ x ∈ m, I64 x) ∧ (∀ x ∈ b, I64 x) ∧ ∀ x ∈ o, I64 x) (hfs : I64 gen ∧ I64 row) (w : World) (hA : At w A m ∧ At w B b ∧ At w C o) :
    Calls Try.prog 5 #[.agg #[.int .i64 gen, .slice A m.length ca, .slice B b.length cb, .slice C o.length cc], .int .i64 row] w fun e w' => e = .returned (.bool true) ∧ Below w.heap.size w w' := by
  have HA := hidP hA
  have Hr := hidP hr
  have Hf := hidP hfs
  have Hl := hidP hl
  clear hA hr hfs hl
  go_enter Try.func5, Try.ntmps5
  go_wp2_with fail
  refine (szGroup_any gen A B C m.length b.length o.length ca cb cc Hl.out.1 Hl.out.2.1 Hl.out.2.2 1048576 (by omega) (by omega) _).mono ?_
  rintro e w1 ⟨rfl, g1⟩
  have B1 : Below w.heap.size w w1 := by repeat (first | exact Below.refl _ _ | assumption | refine via0 (by assumption) ?_ | refine Below.drew ?_ | refine alloc0 ?_ _)
  have p1 := (Blk.new w 52 #[.int .i64 gen, .slice A m.length ca, .slice B b.length cb, .slice C o.length cc]).below g1 (by simp)
  obtain ⟨u0, u1, u2, u3⟩ := p1.row4
  by_cases hsz : (1048576 : Int) < ((m.length + b.length + o.length : Nat) : Int)
  · rw [if_pos hsz]
    go_wp2
    go_ret
    exact ⟨rfl, B1⟩
  rw [if_neg hsz]
  have HL : Hid (m.length ≤ 1048576 ∧ b.length ≤ 1048576 ∧ o.length ≤ 1048576) := by refine ⟨?_, ?_, ?_⟩ <;> omega
  have hpos : ¬ (1048576 : Int) - ((m.length + b.length + o.length : Nat) : Int) < 0 := by omega
  generalize hq : (1048576 : Int) - ((m.length + b.length + o.length : Nat) : Int) = qq at hpos ⊢
  clear hq hsz
  go_wp2_with fail
  refine (toGroup_any gen A B C ca cb cc m b o HL.out.1 HL.out.2.1 HL.out.2.2 _ (HA.out.1.below B1) (HA.out.2.1.below B1) (HA.out.2.2.below B1)).mono ?_
  rintro e w2 ⟨x2, y2, z2, rfl, g2, T2⟩
  have B2 : Below w.heap.size w w2 := via0 g2 B1
  have p2 := p1.below g2 p1.lt
  have H2 := hidP T2
  clear T2 u0 u1 u2 u3
  obtain ⟨u0, u1, u2, u3⟩ := p2.row4
  go_wp2_with fail
  refine (specOwner_any gen row _ _ _ _ _ _ m b o HL.out.1 Hr.out.1 _ H2.out.am H2.out.ab H2.out.ao).mono ?_
  rintro e w3 ⟨rfl, g3⟩
  generalize hX : ownF m row = x at *
  have B3 : Below w.heap.size w w3 := via0 g3 B2
  have p3 := p2.below g3 p2.lt
  clear u0 u1 u2 u3
  obtain ⟨u0, u1, u2, u3⟩ := p3.row4
  have q3 := p3.lt
  go_wp2_with fail
  refine (toGroup_any gen A B C ca cb cc m b o HL.out.1 HL.out.2.1 HL.out.2.2 _ (HA.out.1.below B3) (HA.out.2.1.below B3) (HA.out.2.2.below B3)).mono ?_
  rintro e w4 ⟨x4, y4, z4, rfl, g4, T4⟩
  have B4 : Below w.heap.size w w4 := via0 g4 B3
  have p4 := p3.below g4 p3.lt
  have q4 := p4.lt
  have H4 := hidP (T4.below (alloc0 (Below.refl _ w4) (.cells #[.int .i64 gen, .slice (some ⟨x4, 0, none⟩) m.length m.length, .slice (some ⟨y4, 0, none⟩) b.length b.length, .slice (some ⟨z4, 0, none⟩) o.length o.length] 55)))
  clear T4 u0 u1 u2 u3
  obtain ⟨u0, u1, u2, u3⟩ := p4.row4
  go_wp2_with fail
  refine (implOwner_any gen row _ _ _ _ _ _ m b o HL.out.1 Hr.out.1 _ H4.out.am H4.out.ab H4.out.ao).mono ?_
  rintro e w5 ⟨rfl, g5⟩
  try rw [hX]
  have B5 : Below w.heap.size w w5 := via0 g5 (alloc0 B4 _)
  have p5 := (p4.alloc _).below g5 (p4.alloc _).lt
  have x5 := (Blk.new w4 55 #[.int .i64 gen, .slice (some ⟨x4, 0, none⟩) m.length m.length, .slice (some ⟨y4, 0, none⟩) b.length b.length, .slice (some ⟨z4, 0, none⟩) o.length o.length]).below g5 (by simp)
  have H5 := hidP (H4.out.below g5)
  have q5 := p5.lt
  have q5' := x5.lt
  clear u0 u1 u2 u3
  obtain ⟨u0, u1, u2, u3⟩ := p5.row4
  obtain ⟨t0, t1, t2, t3⟩ := x5.row4
  go_wp2_with fail
  all_goals
    go_region_held3 (fun w' => w'.cell? ⟨w.heap.size, 0, none⟩ = some (.int .i64 gen) ∧ w'.cell? ⟨w.heap.size, 1, none⟩ = some (.slice A m.length ca) ∧ w'.cell? ⟨w.heap.size, 2, none⟩ = some (.slice B b.length cb) ∧ w'.cell? ⟨w.heap.size, 3, none⟩ = some (.slice C o.length cc) ∧
        w'.cell? ⟨w4.heap.size, 0, none⟩ = some (.int .i64 gen) ∧ w'.cell? ⟨w4.heap.size, 1, none⟩ = some (.slice (some ⟨x4, 0, none⟩) m.length m.length) ∧ w'.cell? ⟨w4.heap.size, 2, none⟩ = some (.slice (some ⟨y4, 0, none⟩) b.length b.length) ∧ w'.cell? ⟨w4.heap.size, 3, none⟩ = some (.slice (some ⟨z4, 0, none⟩) o.length o.length))
      (first | (go_split_ands; refine ⟨?_, ?_, ?_, ?_, ?_, ?_, ?_, ?_⟩ <;> first | assumption | exact (k1 _ _ (by assumption)).trans (by assumption)) | go_keep)
      (first
        | (go_at_call 30; refine (toGroup_any gen A B C ca cb cc m b o HL.out.1 HL.out.2.1 HL.out.2.2 _ (HA.out.1.below (by repeat (first | exact Below.refl _ _ | assumption | refine via0 (by assumption) ?_ | refine Below.drew ?_ | refine alloc0 ?_ _))) (HA.out.2.1.below (by repeat (first | exact Below.refl _ _ | assumption | refine via0 (by assumption) ?_ | refine Below.drew ?_ | refine alloc0 ?_ _))) (HA.out.2.2.below (by repeat (first | exact Below.refl _ _ | assumption | refine via0 (by assumption) ?_ | refine Below.drew ?_ | refine alloc0 ?_ _)))).mono ?_; rintro e w7 ⟨x7, y7, z7, rfl, g7, T7⟩; obtain ⟨k1, m1⟩ := bcell g7; have s7 := Nat.lt_of_lt_of_le q5 g7.size; have s7' := Nat.lt_of_lt_of_le q5' g7.size; have H7 := hidP T7; clear T7)
        | (go_at_call 32; have H5' := H5.out.below (via0 g7 (Below.drew (Below.refl _ _))); refine (eqGroup_same gen _ _ _ _ _ _ _ _ _ _ _ _ m b o Hl.out.1 Hl.out.2.1 Hl.out.2.2 _ H5'.am H5'.ab H5'.ao H7.out.am H7.out.ab H7.out.ao).mono ?_; clear H5'; rintro e w8 ⟨rfl, g8⟩; obtain ⟨k1, m1⟩ := bcell g8))
    all_goals
      go_wp2
      go_ret
      exact ⟨rfl, by repeat (first | exact Below.refl _ _ | assumption | refine via0 (by assumption) ?_ | refine Below.drew ?_ | refine alloc0 ?_ _)⟩

set_option maxRecDepth 100000 in
theorem contract (H : Type) (enc : TypeId × Value → H) (W : World) (base : Nat) (args : Array Value) (ds gs : List (DataW H)) (before : List MemPlace)
    (hval : ∀ (j : Nat) t v, Try.f5.params[j]? = some t → args[j]? = some v → Value.okWide Try.prog W .any base t v)
    (hW : DataW.Whole enc Try.prog Try.f5.params.toList Rows.fnExactOwnerOfSpec.vars false W args.toList ds gs before) :
    Calls Try.prog 5 args W fun e W' => ∃ v, e = .returned v ∧ Rows.fnExactOwnerOfSpec.post enc Try.prog Try.f5 false true false false W args v W' := by
  have hW' := hW
  obtain ⟨p, q, hA0, hV, rfl, hfz, hnd⟩ := hW
  have hA : DataW.TrodAll enc Try.prog W 0 (fun _ => true) true Try.f5.params.toList args.toList ds p := hA0
  rw [Try.params5] at hA hval
  obtain ⟨v0, vs0, d0, ds0, p0, q0, e0, rfl, rfl, h0, r0⟩ := trodAll_cons hA
  obtain ⟨v1, vs1, d1, ds1, p1, q1, rfl, rfl, rfl, h1, r1⟩ := trodAll_cons r0
  obtain ⟨rfl, rfl, rfl⟩ := trodAll_nil r1
  have e0' : args = #[v0, v1] := by cases args; simp_all
  subst e0'
  obtain ⟨rfl, rfl⟩ := trodVars_none hV
  obtain ⟨gen, A, B, C, ca, cb, cc, m, b, o, rfl, i0, hl, hr, a1, a2, a3⟩ := openGroup (hval 0 52 v0 rfl rfl) h0
  obtain ⟨row, rfl, _, _, j1⟩ := open_int Try.underlying3 (hval 1 3 v1 rfl rfl) h1
  refine (law_any gen row A B C ca cb cc m b o hl hr ⟨i0, i64_of j1⟩ W ⟨a1, a2, a3⟩).mono fun e W' ⟨he, hb⟩ => ?_
  subst he
  exact ⟨_, rfl, post_true laidOut (by kernel_rfl) (by kernel_rfl) Try.underlying4 rfl rfl hW' hb⟩

set_option maxRecDepth 100000 in
theorem lifted (os : Os) (started : os.Started) (H : Type) (enc : TypeId × Value → H) :
    ReturnsInHanded {} Try.checked os 5 .any (Rows.fnExactOwnerOfSpec.pre6 enc Try.prog Try.f5 Rows.fnExactOwnerOfRow.domain false) (Rows.fnExactOwnerOfSpec.post enc Try.prog Try.f5 false true false false) := by
  refine returnsInHanded_of_change (C := Try.checked) own started (by kernel_rfl) Try.func5
    (ChangeSpec.witness6 (enc := enc) (C := Try.checked) false ⟨#[], #[.agg #[.int .i64 0, .slice none 0 0, .slice none 0 0, .slice none 0 0], .int .i64 0], []⟩ 8 (by kernel_rfl) (by kernel_rfl) (by kernel_rfl) (by kernel_rfl)) ?_
  intro W base args ds gs before hval0 hW _ _
  exact contract H enc W base args ds gs before hval0 hW

theorem proved : Rows.FnExactOwnerOfSaid :=
  OpenClaim.holds_of_wide 5 Try.f5 rfl rfl rfl rfl rfl rfl rfl ⟨rfl, rfl, rfl, rfl, rfl⟩ rfl rfl rfl rfl rfl (by kernel_rfl) Try.func5 (by kernel_rfl)
    (of_decide_eq_true (by kernel_rfl)) (by unfold Func.isWrapper; first | (rw [if_pos (by decide +kernel)]; kernel_rfl) | (rw [if_neg (by decide +kernel)]; exact ⟨rfl, rfl⟩))
    (fun os started H enc _ => lifted os started H enc)
end Go.Proofs.Ytnjefllameilbaa.OwnerOf
namespace Go.Proofs.Ytnjefllameilbaa
theorem ownerOf_holds : Rows.FnExactOwnerOfSaid := OwnerOf.proved
end Go.Proofs.Ytnjefllameilbaa
