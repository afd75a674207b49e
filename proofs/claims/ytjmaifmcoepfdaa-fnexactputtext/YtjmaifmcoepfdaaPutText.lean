/-
  FnExactPutText: at every input the program's answer is the specification's, byte by byte; its answer owns its memory, behind another call too. No condition.
-/
import Derived.Test.YtjmaifmcoepfdaaPutB
import Derived.Test.YtjmaifmcoepfdaaBSl
import Derived.ChangeMaps5
namespace Go.Proofs.Ytjmaifmcoepfdaa.PutText
open Go.ChangeShapes Go.WideShapes Go.ChangeAt Go.RowKit Go.Joins Go.Deep Base Gen
set_option linter.unusedVariables false

theorem own : ownKnob Try.prog.godebug = none := by kernel_rfl
theorem laidOut : laidOutB Try.prog = true := by kernel_rfl

set_option maxRecDepth 100000 in
set_option maxHeartbeats 4000000 in
theorem law_any (s : ByteArray) (h47 : s.size ≤ 9223372036854775807) (w : World) :
    Calls Try.prog 7 #[.string s] w fun e w' => e = .returned (.bool true) ∧ Below w.heap.size w w' := by
  by_cases hs : ¬ s.size ≤ 1048576
  · have h1 : (1048576 : Int) < (s.size : Int) := by omega
    have h2 : ¬ ((s.size : Int) ≤ 1048576) := by omega
    clear hs
    go_enter Try.func7, Try.ntmps7
    go_wp2
    go_ret
    exact ⟨rfl, Below.refl _ _⟩
  replace hs : s.size ≤ 1048576 := Decidable.not_not.1 hs
  have HSz := hidP hs
  have hs1 : ¬ ((1048576 : Int) < (s.size : Int)) := by omega
  have hs2 : (s.size : Int) ≤ 1048576 := by omega
  have HI := hidP (fun W => implPutText_any s hs W)
  have HLe : Hid ((txtB s).length ≤ 10000000) := by rw [txtB_length]; have := numB_le (n := s.size) (by omega); exact hidP (by omega)
  go_enter Try.func7, Try.ntmps7
  go_wp2_with fail
  refine (specPutText_any s HSz.out _).mono ?_
  rintro e w1 ⟨aS, cS, rfl, g1, O1⟩
  generalize hL : txtB s = L at *
  have B1 : Below w.heap.size w w1 := g1
  obtain ⟨FS, S1, _⟩ := sl_own O1
  have s01 := B1.size
  have HS1 := hidP S1
  clear S1 O1 hL g1
  go_wp2_with fail
  refine (HI.out _).mono ?_
  rintro e w2 ⟨aI, cI, rfl, g2, O2⟩
  obtain ⟨FI, S2, l2⟩ := sl_own O2
  have B2 : Below w.heap.size w w2 := via0 g2 B1
  have lo2 : Hid (∀ x ∈ FI, w1.heap.size ≤ x) := l2
  have loS : Hid (∀ x ∈ FS, x < w1.heap.size) := HS1.out.lt
  have HS2 := hidP (HS1.out.below g2)
  have HG2 := hidP S2
  clear S2 O2 l2 g2 B1 HS1
  go_wp2_with fail
  refine (eqB_same aI aS cI cS L (by have := HLe.out; omega) _ HG2.out.at HS2.out.at).mono ?_
  rintro e w3 ⟨rfl, g3⟩
  have B3 := via0 g3 B2
  have HS3 := hidP (HS2.out.below g3)
  have HG3 := hidP (HG2.out.below g3)
  clear HS2 HG2 g3 B2
  go_wp2_with fail
  refine (markSl_any aI cI L FI (by have := HLe.out; omega) _ HG3.out).mono ?_
  rintro e w4 ⟨rfl, f4, G4⟩
  have B4 : Below w.heap.size w w4 := Below.trans B3 (f4.toBelow (fun x hx => Nat.le_trans s01 (lo2.out x hx)) B3.size)
  have HS4 := hidP (HS3.out.off f4 (fun x hx hy => by have := lo2.out _ hy; have := loS.out x hx; omega))
  have HG4 := hidP G4
  clear HS3 HG3 f4 G4 B3
  have n4 : ¬ (1 + (L.length : Int) < 0) := by omega
  go_wp2_with fail
  refine (heldSl_any aI cI L.length FI (by have := HLe.out; omega) _ HG4.out).mono ?_
  rintro e w5 ⟨rfl, g5⟩
  have B5 := via0 g5 B4
  have HS5 := hidP (HS4.out.below g5)
  have HG5 := hidP (HG4.out.below g5)
  clear HS4 HG4 g5 B4
  go_wp2_with fail
  refine (HI.out _).mono ?_
  rintro e w6 ⟨aH, cH, rfl, g6, O6⟩
  obtain ⟨FH, S6, _⟩ := sl_own O6
  have B6 := via0 g6 B5
  have HS6 := hidP (HS5.out.below g6)
  have HG6 := hidP (HG5.out.below g6)
  have HH6 := hidP S6
  clear HS5 HG5 g6 B5 O6 S6
  go_wp2_with fail
  refine (eqB_same aH aS cH cS L (by have := HLe.out; omega) _ HH6.out.at HS6.out.at).mono ?_
  rintro e w7 ⟨rfl, g7⟩
  have B7 := via0 g7 B6
  have HG7 := hidP (HG6.out.below g7)
  clear HS6 HG6 HH6 g7 B6
  go_wp2_with fail
  refine (heldSl_any aI cI L.length FI (by have := HLe.out; omega) _ HG7.out).mono ?_
  rintro e w8 ⟨rfl, g8⟩
  have B8 := via0 g8 B7
  go_wp2
  go_ret
  exact ⟨rfl, B8⟩

set_option maxRecDepth 100000 in
theorem contract (H : Type) (enc : TypeId × Value → H) (W : World) (base : Nat) (args : Array Value) (ds gs : List (DataW H)) (before : List MemPlace)
    (hval : ∀ (j : Nat) t v, Try.f7.params[j]? = some t → args[j]? = some v → Value.okWide Try.prog W .any base t v)
    (hW : DataW.Whole enc Try.prog Try.f7.params.toList Rows.fnExactPutTextSpec.vars false W args.toList ds gs before) :
    Calls Try.prog 7 args W fun e W' => ∃ v, e = .returned v ∧ Rows.fnExactPutTextSpec.post enc Try.prog Try.f7 false true false false W args v W' := by
  have hW' := hW
  obtain ⟨p, q, hA0, hV, rfl, hfz, hnd⟩ := hW
  have hA : DataW.TrodAll enc Try.prog W 0 (fun _ => true) true Try.f7.params.toList args.toList ds p := hA0
  rw [Try.params7] at hA hval
  obtain ⟨v0, vs0, d0, ds0, p0, q0, e0, rfl, rfl, h0, r0⟩ := trodAll_cons hA
  obtain ⟨rfl, rfl, rfl⟩ := trodAll_nil r0
  have e0' : args = #[v0] := by cases args; simp_all
  subst e0'
  obtain ⟨rfl, rfl⟩ := trodVars_none hV
  obtain ⟨s, rfl, _, _, hs0⟩ := Go.ChangeMaps.open_string Try.underlying9 (hval 0 9 v0 rfl rfl) h0
  refine (law_any s (by simp [maxLen] at hs0; omega) W).mono fun e W' ⟨he, hb⟩ => ?_
  subst he
  exact ⟨_, rfl, post_true laidOut (by kernel_rfl) (by kernel_rfl) Try.underlying4 rfl rfl hW' hb⟩

set_option maxRecDepth 100000 in
theorem lifted (os : Os) (started : os.Started) (H : Type) (enc : TypeId × Value → H) :
    ReturnsInHanded {} Try.checked os 7 .any (Rows.fnExactPutTextSpec.pre6 enc Try.prog Try.f7 Rows.fnExactPutTextRow.domain false) (Rows.fnExactPutTextSpec.post enc Try.prog Try.f7 false true false false) := by
  refine returnsInHanded_of_change (C := Try.checked) own started (by kernel_rfl) Try.func7
    (ChangeSpec.witness6 (enc := enc) (C := Try.checked) false ⟨#[], #[.string ⟨#[]⟩], []⟩ 8 (by kernel_rfl) (by kernel_rfl) (by kernel_rfl) (by kernel_rfl)) ?_
  intro W base args ds gs before hval0 hW _ _
  exact contract H enc W base args ds gs before hval0 hW

theorem proved : Rows.FnExactPutTextSaid :=
  OpenClaim.holds_of_wide 7 Try.f7 rfl rfl rfl rfl rfl rfl rfl ⟨rfl, rfl, rfl, rfl, rfl⟩ rfl rfl rfl rfl rfl (by kernel_rfl) Try.func7 (by kernel_rfl)
    (of_decide_eq_true (by kernel_rfl)) (by unfold Func.isWrapper; first | (rw [if_pos (by decide +kernel)]; kernel_rfl) | (rw [if_neg (by decide +kernel)]; exact ⟨rfl, rfl⟩))
    (fun os started H enc _ => lifted os started H enc)
end Go.Proofs.Ytjmaifmcoepfdaa.PutText
namespace Go.Proofs.Ytjmaifmcoepfdaa
theorem putText_holds : Rows.FnExactPutTextSaid := PutText.proved
end Go.Proofs.Ytjmaifmcoepfdaa
