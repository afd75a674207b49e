/-
  FnExactGetNum: at every input the program's answer is the specification's; it writes into no argument. No condition.
-/
import Derived.Test.YtjmaifmcoepfdaaGetB
import Derived.ChangeMaps5
namespace Go.Proofs.Ytjmaifmcoepfdaa.GetNum
open Go.ChangeShapes Go.WideShapes Go.ChangeAt Go.RowKit Go.Joins Go.Deep Base Gen
set_option linter.unusedVariables false

theorem own : ownKnob Try.prog.godebug = none := by kernel_rfl
theorem laidOut : laidOutB Try.prog = true := by kernel_rfl

theorem form (o : Option (Nat × Nat)) : ∃ N C B, numT o = .tuple #[.int .i64 N, .int .i64 C, .bool B] := by
  cases o with
  | none => exact ⟨_, _, _, rfl⟩
  | some x => exact ⟨_, _, _, rfl⟩

set_option maxRecDepth 100000 in
set_option maxHeartbeats 4000000 in
theorem law_any (A : Option Addr) (cap : Nat) (l : List UInt8) (hl : l.length ≤ 9223372036854775807) (i : Int) (hi : I64 i) (w : World) (hA : At w A l) :
    Calls Try.prog 6 #[.slice A l.length cap, .int .i64 i] w fun e w' => e = .returned (.bool true) ∧ Below w.heap.size w w' := by
  have HA := hidP hA
  by_cases hs : ¬ l.length ≤ 1048576
  · have h1 : (1048576 : Int) < (l.length : Int) := by omega
    clear hs hA hi
    go_enter Try.func6, Try.ntmps6
    go_wp2
    go_ret
    exact ⟨rfl, Below.refl _ _⟩
  replace hs : l.length ≤ 1048576 := Decidable.not_not.1 hs
  have hs1 : ¬ ((1048576 : Int) < (l.length : Int)) := by omega
  have HS := hidP (fun (a : Option Addr) (W : World) (h : At W a l) => specGetNum_any a l.length l hs i hi W h)
  have HI := hidP (fun (a : Option Addr) (W : World) (h : At W a l) => implGetNum_any a l.length l hs i hi W h)
  obtain ⟨N, C, B, hT⟩ := form (getN l i)
  rw [hT] at HS HI
  clear hT hA hi
  go_enter Try.func6, Try.ntmps6
  go_wp2_with fail
  refine (toB_any A cap l hs _ HA.out).mono ?_
  rintro e w1 ⟨rfl, B1, s1, i1, _⟩
  have H1 : Hid (At w1 (some ⟨w.heap.size, 0, none⟩) l) := hidP (.inr ⟨_, _, rfl, s1, i1⟩)
  have HA1 := hidP (HA.out.below B1)
  clear i1 s1
  go_wp2_with fail
  refine (HS.out _ _ H1.out).mono ?_
  rintro e w1 ⟨rfl, rfl⟩
  go_wp2_with fail
  refine (toB_any A cap l hs _ HA1.out).mono ?_
  rintro e w2 ⟨rfl, g2, s2, i2, _⟩
  have H2 : Hid (At w2 (some ⟨w1.heap.size, 0, none⟩) l) := hidP (.inr ⟨_, _, rfl, s2, i2⟩)
  have B2 := via0 g2 B1
  have HA2 := hidP (HA1.out.below g2)
  clear i2 g2 s2 B1 H1 HA1
  go_wp2_with fail
  refine (HI.out _ _ H2.out).mono ?_
  rintro e w3 ⟨rfl, g3⟩
  have B3 := via0 g3 B2
  have H3 := hidP (H2.out.below g3)
  have HA3 := hidP (HA2.out.below g3)
  clear g3 B2 H2 HA2
  go_wp2_with fail
  refine (toB_any A cap l hs _ HA3.out).mono ?_
  rintro e w4 ⟨rfl, g4, s4, i4, _⟩
  have H4 : Hid (At w4 (some ⟨w3.heap.size, 0, none⟩) l) := hidP (.inr ⟨_, _, rfl, s4, i4⟩)
  have H4' := hidP (H3.out.below g4)
  have B4 := via0 g4 B3
  clear i4 g4 s4 B3 H3 HA3
  go_wp2_with fail
  refine (eqB_same _ _ _ _ l (by omega) _ H4'.out H4.out).mono ?_
  rintro e w5 ⟨rfl, g5⟩
  have B5 := via0 g5 B4
  go_wp2
  go_ret
  exact ⟨rfl, B5⟩

set_option maxRecDepth 100000 in
theorem contract (H : Type) (enc : TypeId × Value → H) (W : World) (base : Nat) (args : Array Value) (ds gs : List (DataW H)) (before : List MemPlace)
    (hval : ∀ (j : Nat) t v, Try.f6.params[j]? = some t → args[j]? = some v → Value.okWide Try.prog W .any base t v)
    (hW : DataW.Whole enc Try.prog Try.f6.params.toList Rows.fnExactGetNumSpec.vars false W args.toList ds gs before) :
    Calls Try.prog 6 args W fun e W' => ∃ v, e = .returned v ∧ Rows.fnExactGetNumSpec.post enc Try.prog Try.f6 false true false false W args v W' := by
  have hW' := hW
  obtain ⟨p, q, hA0, hV, rfl, hfz, hnd⟩ := hW
  have hA : DataW.TrodAll enc Try.prog W 0 (fun _ => true) true Try.f6.params.toList args.toList ds p := hA0
  rw [Try.params6] at hA hval
  obtain ⟨v0, vs0, d0, ds0, p0, q0, e0, rfl, rfl, h0, r0⟩ := trodAll_cons hA
  obtain ⟨v1, vs1, d1, ds1, p1, q1, e1, rfl, rfl, h1, r1⟩ := trodAll_cons r0
  obtain ⟨rfl, rfl, rfl⟩ := trodAll_nil r1
  have e0' : args = #[v0, v1] := by cases args; simp_all
  subst e0'
  obtain ⟨rfl, rfl⟩ := trodVars_none hV
  obtain ⟨i, rfl, _, _, j0⟩ := open_int Try.underlying3 (hval 1 3 v1 rfl rfl) h1
  obtain ⟨f0, g0⟩ := h0
  have hv0 := hval 0 22 v0 rfl rfl
  obtain ⟨a, len, c, rfl⟩ := okWide_slice Try.underlying22 hv0
  obtain ⟨A, cap, l, e, hl, hat⟩ := openBs (c := .slice a len c) g0
  rw [e]
  refine (law_any A cap l hl i (i64_of j0) W hat).mono fun e W' ⟨he, hb⟩ => ?_
  subst he
  rw [← e]
  exact ⟨_, rfl, post_true laidOut (by kernel_rfl) (by kernel_rfl) Try.underlying4 rfl rfl hW' hb⟩

set_option maxRecDepth 100000 in
theorem lifted (os : Os) (started : os.Started) (H : Type) (enc : TypeId × Value → H) :
    ReturnsInHanded {} Try.checked os 6 .any (Rows.fnExactGetNumSpec.pre6 enc Try.prog Try.f6 Rows.fnExactGetNumRow.domain false) (Rows.fnExactGetNumSpec.post enc Try.prog Try.f6 false true false false) := by
  refine returnsInHanded_of_change (C := Try.checked) own started (by kernel_rfl) Try.func6
    (ChangeSpec.witness6 (enc := enc) (C := Try.checked) false ⟨#[], #[.slice none 0 0, .int .i64 0], []⟩ 8 (by kernel_rfl) (by kernel_rfl) (by kernel_rfl) (by kernel_rfl)) ?_
  intro W base args ds gs before hval0 hW _ _
  exact contract H enc W base args ds gs before hval0 hW

theorem proved : Rows.FnExactGetNumSaid :=
  OpenClaim.holds_of_wide 6 Try.f6 rfl rfl rfl rfl rfl rfl rfl ⟨rfl, rfl, rfl, rfl, rfl⟩ rfl rfl rfl rfl rfl (by kernel_rfl) Try.func6 (by kernel_rfl)
    (of_decide_eq_true (by kernel_rfl)) (by unfold Func.isWrapper; first | (rw [if_pos (by decide +kernel)]; kernel_rfl) | (rw [if_neg (by decide +kernel)]; exact ⟨rfl, rfl⟩))
    (fun os started H enc _ => lifted os started H enc)
end Go.Proofs.Ytjmaifmcoepfdaa.GetNum
namespace Go.Proofs.Ytjmaifmcoepfdaa
theorem getNum_holds : Rows.FnExactGetNumSaid := GetNum.proved
end Go.Proofs.Ytjmaifmcoepfdaa
