/-
  FnExactSumOf: at every input the program's answer is the specification's; it writes into no argument. No condition.
-/
import Derived.Test.YtfbbifdfjjkknaaSum
import Derived.ChangeMaps5
namespace Go.Proofs.Ytfbbifdfjjkknaa.SumOfL
open Go.ChangeShapes Go.WideShapes Go.ChangeAt Go.RowKit Go.Joins Go.Deep Base Gen
set_option linter.unusedVariables false

theorem own : ownKnob Try.prog.godebug = none := by kernel_rfl
theorem laidOut : laidOutB Try.prog = true := by kernel_rfl

set_option maxRecDepth 100000 in
set_option maxHeartbeats 4000000 in
theorem law_any (A : Option Addr) (cap : Nat) (l : List UInt8) (hl : l.length ≤ 9223372036854775807) (w : World) (hA : At w A l) :
    Calls Try.prog 4 #[.slice A l.length cap] w fun e w' => e = .returned (.bool true) ∧ Below w.heap.size w w' := by
  have HA := hidP hA
  by_cases hs : ¬ l.length ≤ 1048576
  · have h1 : (1048576 : Int) < (l.length : Int) := by omega
    clear hs hA
    go_enter Try.func4, Try.ntmps4
    go_wp2
    go_ret
    exact ⟨rfl, Below.refl _ _⟩
  replace hs : l.length ≤ 1048576 := Decidable.not_not.1 hs
  have hs1 : ¬ ((1048576 : Int) < (l.length : Int)) := by omega
  have HS := hidP (fun (a : Option Addr) (W : World) (h : At W a l) => specSum_any a l.length l (Nat.le_trans hs (by omega)) W h)
  have HI := hidP (fun (a : Option Addr) (W : World) (h : At W a l) => implSum_any a l.length l (Nat.le_trans hs (by omega)) W h)
  generalize (sumN l : Int) = N at HS HI
  clear hA
  go_enter Try.func4, Try.ntmps4
  go_wp2_with fail
  refine (toB_any A cap l hs _ HA.out).mono ?_
  rintro e w1 ⟨rfl, B1, s1, i1, _⟩
  have H1 : Hid (At w1 (some ⟨w.heap.size, 0, none⟩) l) := hidP (.inr ⟨_, _, rfl, s1, i1⟩)
  have HA1 := hidP (HA.out.below B1)
  clear i1 s1
  go_wp2_with fail
  refine (HS.out _ _ H1.out).mono ?_
  rintro e w1 ⟨rfl, rfl⟩
  go_wp2_with fail
  refine (toB_any A cap l hs _ HA1.out).mono ?_
  rintro e w2 ⟨rfl, g2, s2, i2, _⟩
  have H2 : Hid (At w2 (some ⟨w1.heap.size, 0, none⟩) l) := hidP (.inr ⟨_, _, rfl, s2, i2⟩)
  have B2 := via0 g2 B1
  have HA2 := hidP (HA1.out.below g2)
  clear i2 g2 s2 B1 H1 HA1
  go_wp2_with fail
  refine (HI.out _ _ H2.out).mono ?_
  rintro e w3 ⟨rfl, rfl⟩
  have B3 := B2
  have H3 := H2
  have HA3 := HA2
  clear B2 H2 HA2
  go_wp2_with fail
  refine (toB_any A cap l hs _ HA3.out).mono ?_
  rintro e w4 ⟨rfl, g4, s4, i4, _⟩
  have H4 : Hid (At w4 (some ⟨w3.heap.size, 0, none⟩) l) := hidP (.inr ⟨_, _, rfl, s4, i4⟩)
  have H4' := hidP (H3.out.below g4)
  have B4 := via0 g4 B3
  clear i4 g4 s4 B3 H3 HA3
  go_wp2_with fail
  refine (eqB_same _ _ _ _ l (by omega) _ H4'.out H4.out).mono ?_
  rintro e w5 ⟨rfl, g5⟩
  have B5 := via0 g5 B4
  go_wp2
  go_ret
  exact ⟨rfl, B5⟩

set_option maxRecDepth 100000 in
theorem contract (H : Type) (enc : TypeId × Value → H) (W : World) (base : Nat) (args : Array Value) (ds gs : List (DataW H)) (before : List MemPlace)
    (hval : ∀ (j : Nat) t v, Try.f4.params[j]? = some t → args[j]? = some v → Value.okWide Try.prog W .any base t v)
    (hW : DataW.Whole enc Try.prog Try.f4.params.toList Rows.fnExactSumOfSpec.vars false W args.toList ds gs before) :
    Calls Try.prog 4 args W fun e W' => ∃ v, e = .returned v ∧ Rows.fnExactSumOfSpec.post enc Try.prog Try.f4 false true false false W args v W' := by
  have hW' := hW
  obtain ⟨p, q, hA0, hV, rfl, hfz, hnd⟩ := hW
  have hA : DataW.TrodAll enc Try.prog W 0 (fun _ => true) true Try.f4.params.toList args.toList ds p := hA0
  rw [Try.params4] at hA hval
  obtain ⟨v0, vs0, d0, ds0, p0, q0, e0, rfl, rfl, h0, r0⟩ := trodAll_cons hA
  obtain ⟨rfl, rfl, rfl⟩ := trodAll_nil r0
  have e0' : args = #[v0] := by cases args; simp_all
  subst e0'
  obtain ⟨rfl, rfl⟩ := trodVars_none hV
  obtain ⟨f0, g0⟩ := h0
  have hv0 := hval 0 33 v0 rfl rfl
  obtain ⟨a, len, c, rfl⟩ := okWide_slice Try.underlying33 hv0
  obtain ⟨A, cap, l, e, hl, hat⟩ := openBs (c := .slice a len c) g0
  rw [e]
  refine (law_any A cap l hl W hat).mono fun e W' ⟨he, hb⟩ => ?_
  subst he
  rw [← e]
  exact ⟨_, rfl, post_true laidOut (by kernel_rfl) (by kernel_rfl) Try.underlying4 rfl rfl hW' hb⟩

set_option maxRecDepth 100000 in
theorem lifted (os : Os) (started : os.Started) (H : Type) (enc : TypeId × Value → H) :
    ReturnsInHanded {} Try.checked os 4 .any (Rows.fnExactSumOfSpec.pre6 enc Try.prog Try.f4 Rows.fnExactSumOfRow.domain false) (Rows.fnExactSumOfSpec.post enc Try.prog Try.f4 false true false false) := by
  refine returnsInHanded_of_change (C := Try.checked) own started (by kernel_rfl) Try.func4
    (ChangeSpec.witness6 (enc := enc) (C := Try.checked) false ⟨#[], #[.slice none 0 0], []⟩ 8 (by kernel_rfl) (by kernel_rfl) (by kernel_rfl) (by kernel_rfl)) ?_
  intro W base args ds gs before hval0 hW _ _
  exact contract H enc W base args ds gs before hval0 hW

theorem proved : Rows.FnExactSumOfSaid :=
  OpenClaim.holds_of_wide 4 Try.f4 rfl rfl rfl rfl rfl rfl rfl ⟨rfl, rfl, rfl, rfl, rfl⟩ rfl rfl rfl rfl rfl (by kernel_rfl) Try.func4 (by kernel_rfl)
    (of_decide_eq_true (by kernel_rfl)) (by unfold Func.isWrapper; first | (rw [if_pos (by decide +kernel)]; kernel_rfl) | (rw [if_neg (by decide +kernel)]; exact ⟨rfl, rfl⟩))
    (fun os started H enc _ => lifted os started H enc)
end Go.Proofs.Ytfbbifdfjjkknaa.SumOfL
namespace Go.Proofs.Ytfbbifdfjjkknaa
theorem sumOf_holds : Rows.FnExactSumOfSaid := SumOfL.proved
end Go.Proofs.Ytfbbifdfjjkknaa
