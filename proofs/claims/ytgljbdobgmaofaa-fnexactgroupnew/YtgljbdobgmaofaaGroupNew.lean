/-
  FnExactGroupNew: at every input the program's answer is the specification's, field by field; what it was handed stays as it was; its answer owns its memory. No condition.
-/
import Derived.Test.YtgljbdobgmaofaaGrpNew
import Derived.ChangeMaps5
namespace Go.Proofs.Ytgljbdobgmaofaa.GroupNew
open Go.ChangeShapes Go.WideShapes Go.ChangeAt Go.RowKit Go.Joins Go.Deep Base Gen
set_option linter.unusedVariables false

theorem own : ownKnob Try.prog.godebug = none := by kernel_rfl
theorem laidOut : laidOutB Try.prog = true := by kernel_rfl

theorem eqNew_any (a a' : Option Addr) (c c' : Nat) (L : List Int) (hL : L.length ≤ 4) (w : World) (h : At w a L) (h' : At w a' L) :
    Calls Try.prog 9 #[.agg #[.int .i64 0, .slice none 0 0, .slice none 0 0, .slice a L.length c], .agg #[.int .i64 0, .slice none 0 0, .slice none 0 0, .slice a' L.length c']] w fun e w' => e = .returned (.bool true) ∧ Below w.heap.size w w' :=
  eqGroup_same 0 none none a none none a' 0 0 c 0 0 c' [] [] L (by simp) (by simp) (by omega) w (.inl rfl) (.inl rfl) h (.inl rfl) (.inl rfl) h'
theorem markNew_any (a : Option Addr) (c : Nat) (L : List Int) (F : List Nat) (hL : L.length ≤ 4) (w : World) (h : Gp w none none a [] [] L F) :
    Calls Try.prog 12 #[.agg #[.int .i64 0, .slice none 0 0, .slice none 0 0, .slice a L.length c], .int .i64 1] w fun e w' => e = .returned (.int .i64 (1 + (L.length : Int))) ∧ Off F w w' ∧ Gp w' none none a [] [] (marksInt L.length 1) F := by
  refine (markGroup_any 0 none none a 0 0 c [] [] L F (by simp) (by simp) (by omega) w h).mono ?_
  rintro e w' ⟨rfl, f, g⟩
  refine ⟨by simp, f, ?_⟩
  simpa [marksInt] using g
theorem heldNew_any (a : Option Addr) (c : Nat) (L : List Int) (F : List Nat) (hL : L.length ≤ 4) (w : World) (h : Gp w none none a [] [] (marksInt L.length 1) F) :
    Calls Try.prog 13 #[.agg #[.int .i64 0, .slice none 0 0, .slice none 0 0, .slice a L.length c], .int .i64 1] w fun e w' => e = .returned (.int .i64 (1 + (L.length : Int))) ∧ Below w.heap.size w w' := by
  refine (heldGroup_any 0 none none a 0 0 c 0 0 L.length F (by simp) (by simp) (by omega) w ?_).mono ?_
  · simpa [marksInt] using h
  · rintro e w' ⟨rfl, g⟩
    exact ⟨by simp, g⟩

set_option maxRecDepth 100000 in
set_option maxHeartbeats 4000000 in
theorem law_any (rows : Int) (w : World) :
    Calls Try.prog 4 #[.int .i64 rows] w fun e w' => e = .returned (.bool true) ∧ Below w.heap.size w w' := by
  have HI := hidP (fun W => implNew_any rows W)
  have HLe := hidP (newO_le rows)
  go_enter Try.func4, Try.ntmps4
  go_wp2_with fail
  refine (specNew_any rows _).mono ?_
  rintro e w1 ⟨aS, cS, FS, rfl, g1, G1, l1⟩
  generalize newO rows = L at *
  have B1 : Below w.heap.size w w1 := g1
  have s01 := g1.size
  have HG1 := hidP G1
  go_wp2_with fail
  refine (HI.out _).mono ?_
  rintro e w2 ⟨aI, cI, FI, rfl, g2, G2, l2⟩
  have B2 : Below w.heap.size w w2 := via0 g2 (alloc0 B1 _)
  have lo2 : Hid (∀ x ∈ FI, w1.heap.size < x ∧ x < w2.heap.size) := fun x hx => ⟨by have := l2 x hx; simp only [World.size_alloc] at this; omega, G2.lt x hx⟩
  have loS : Hid (∀ x ∈ FS, x < w1.heap.size) := G1.lt
  have p3 := ((Blk.new w1 27 #[.int .i64 0, .slice none 0 0, .slice none 0 0, .slice aS L.length cS]).below g2 (by simp)).alloc (.cells #[.int .i64 0, .slice none 0 0, .slice none 0 0, .slice aI L.length cI] 27)
  have p4 := Blk.new w2 27 #[.int .i64 0, .slice none 0 0, .slice none 0 0, .slice aI L.length cI]
  have HS := hidP (((G1.alloc (.cells #[.int .i64 0, .slice none 0 0, .slice none 0 0, .slice aS L.length cS] 27)).below g2).alloc (.cells #[.int .i64 0, .slice none 0 0, .slice none 0 0, .slice aI L.length cI] 27))
  have HG := hidP (G2.alloc (.cells #[.int .i64 0, .slice none 0 0, .slice none 0 0, .slice aI L.length cI] 27))
  have s12 : w1.heap.size < w2.heap.size := Nat.lt_of_lt_of_le (by simp) g2.size
  have B3 : Below w.heap.size w (w2.alloc (.cells #[.int .i64 0, .slice none 0 0, .slice none 0 0, .slice aI L.length cI] 27)) := alloc0 B2 _
  clear G1 G2 l2 g1 g2 B1 B2 HG1
  obtain ⟨c0, c1, c2, c3⟩ := p3.row4
  have q3 := p3.lt
  have q4 := p4.lt
  go_wp2_with fail
  refine (eqNew_any aI aS cI cS L HLe.out _ HG.out.at3 HS.out.at3).mono ?_
  rintro e w5 ⟨rfl, g5⟩
  have B5 := via0 g5 B3
  have r3 := p3.below g5 p3.lt
  have r4 := p4.below g5 p4.lt
  have HS5 := hidP (HS.out.below g5)
  have HG5 := hidP (HG.out.below g5)
  clear c0 c1 c2 c3 p3 p4 HS HG g5 B3 q3 q4
  obtain ⟨d0, d1, d2, d3⟩ := r4.row4
  obtain ⟨c0, c1, c2, c3⟩ := r3.row4
  go_wp2_with fail
  refine (markNew_any aI cI L FI HLe.out _ HG5.out).mono ?_
  rintro e w6 ⟨rfl, f6, G6⟩
  have B6 : Below w.heap.size w w6 := Below.trans B5 (f6.toBelow (fun x hx => Nat.le_of_lt (Nat.lt_of_le_of_lt s01 (lo2.out x hx).1)) B5.size)
  have z3 := r3.off f6 (fun hx => by have := (lo2.out _ hx).1; omega)
  have z4 := r4.off f6 (fun hx => by have := (lo2.out _ hx).2; omega)
  have HS6 := hidP (HS5.out.off f6 (fun x hx hy => by have := (lo2.out _ hy).1; have := loS.out x hx; omega))
  have HG6 := hidP G6
  clear c0 c1 c2 c3 d0 d1 d2 d3 r3 r4 HS5 HG5 f6 G6 B5
  obtain ⟨d0, d1, d2, d3⟩ := z4.row4
  have n6 : ¬ (1 + (L.length : Int) < 0) := by omega
  go_wp2_with fail
  refine (heldNew_any aI cI L FI HLe.out _ HG6.out).mono ?_
  rintro e w7 ⟨rfl, g7⟩
  have B7 := via0 g7 B6
  have y3 := z3.below g7 z3.lt
  have y4 := z4.below g7 z4.lt
  have HS7 := hidP (HS6.out.below g7)
  have HG7 := hidP (HG6.out.below g7)
  clear d0 d1 d2 d3 z3 z4 HS6 HG6 g7 B6
  go_wp2_with fail
  refine (HI.out _).mono ?_
  rintro e w8 ⟨aH, cH, FH, rfl, g8, G8, l8⟩
  have B8 : Below w.heap.size w (w8.alloc (.cells #[.int .i64 0, .slice none 0 0, .slice none 0 0, .slice aH L.length cH] 27)) := alloc0 (via0 g8 B7) _
  have x3 := (y3.below g8 y3.lt).alloc (.cells #[.int .i64 0, .slice none 0 0, .slice none 0 0, .slice aH L.length cH] 27)
  have x4 := (y4.below g8 y4.lt).alloc (.cells #[.int .i64 0, .slice none 0 0, .slice none 0 0, .slice aH L.length cH] 27)
  have HS8 := hidP ((HS7.out.below g8).alloc (.cells #[.int .i64 0, .slice none 0 0, .slice none 0 0, .slice aH L.length cH] 27))
  have HG8 := hidP ((HG7.out.below g8).alloc (.cells #[.int .i64 0, .slice none 0 0, .slice none 0 0, .slice aH L.length cH] 27))
  have HH8 := hidP (G8.alloc (.cells #[.int .i64 0, .slice none 0 0, .slice none 0 0, .slice aH L.length cH] 27))
  clear y3 y4 HS7 HG7 g8 B7 G8 l8
  obtain ⟨c0, c1, c2, c3⟩ := x3.row4
  obtain ⟨d0, d1, d2, d3⟩ := x4.row4
  have q3 := x3.lt
  have q4 := x4.lt
  go_wp2_with fail
  refine (eqNew_any aH aS cH cS L HLe.out _ HH8.out.at3 HS8.out.at3).mono ?_
  rintro e w9 ⟨rfl, g9⟩
  have B9 := via0 g9 B8
  have v4 := x4.below g9 x4.lt
  have HG9 := hidP (HG8.out.below g9)
  clear c0 c1 c2 c3 d0 d1 d2 d3 x3 x4 HS8 HG8 HH8 g9 B8 q3 q4
  obtain ⟨d0, d1, d2, d3⟩ := v4.row4
  go_wp2_with fail
  refine (heldNew_any aI cI L FI HLe.out _ HG9.out).mono ?_
  rintro e w10 ⟨rfl, g10⟩
  go_wp2
  go_ret
  exact ⟨rfl, via0 g10 B9⟩

set_option maxRecDepth 100000 in
theorem contract (H : Type) (enc : TypeId × Value → H) (W : World) (base : Nat) (args : Array Value) (ds gs : List (DataW H)) (before : List MemPlace)
    (hval : ∀ (j : Nat) t v, Try.f4.params[j]? = some t → args[j]? = some v → Value.okWide Try.prog W .any base t v)
    (hW : DataW.Whole enc Try.prog Try.f4.params.toList Rows.fnExactGroupNewSpec.vars false W args.toList ds gs before) :
    Calls Try.prog 4 args W fun e W' => ∃ v, e = .returned v ∧ Rows.fnExactGroupNewSpec.post enc Try.prog Try.f4 false true false false W args v W' := by
  have hW' := hW
  obtain ⟨p, q, hA0, hV, rfl, hfz, hnd⟩ := hW
  have hA : DataW.TrodAll enc Try.prog W 0 (fun _ => true) true Try.f4.params.toList args.toList ds p := hA0
  rw [Try.params4] at hA hval
  obtain ⟨v0, vs0, d0, ds0, p0, q0, e0, rfl, rfl, h0, r0⟩ := trodAll_cons hA
  obtain ⟨rfl, rfl, rfl⟩ := trodAll_nil r0
  have e0' : args = #[v0] := by cases args; simp_all
  subst e0'
  obtain ⟨rfl, rfl⟩ := trodVars_none hV
  obtain ⟨rows, rfl, _, _, j0⟩ := open_int Try.underlying3 (hval 0 3 v0 rfl rfl) h0
  refine (law_any rows W).mono fun e W' ⟨he, hb⟩ => ?_
  subst he
  exact ⟨_, rfl, post_true laidOut (by kernel_rfl) (by kernel_rfl) Try.underlying4 rfl rfl hW' hb⟩

set_option maxRecDepth 100000 in
theorem lifted (os : Os) (started : os.Started) (H : Type) (enc : TypeId × Value → H) :
    ReturnsInHanded {} Try.checked os 4 .any (Rows.fnExactGroupNewSpec.pre6 enc Try.prog Try.f4 Rows.fnExactGroupNewRow.domain false) (Rows.fnExactGroupNewSpec.post enc Try.prog Try.f4 false true false false) := by
  refine returnsInHanded_of_change (C := Try.checked) own started (by kernel_rfl) Try.func4
    (ChangeSpec.witness6 (enc := enc) (C := Try.checked) false ⟨#[], #[.int .i64 0], []⟩ 8 (by kernel_rfl) (by kernel_rfl) (by kernel_rfl) (by kernel_rfl)) ?_
  intro W base args ds gs before hval0 hW _ _
  exact contract H enc W base args ds gs before hval0 hW

theorem proved : Rows.FnExactGroupNewSaid :=
  OpenClaim.holds_of_wide 4 Try.f4 rfl rfl rfl rfl rfl rfl rfl ⟨rfl, rfl, rfl, rfl, rfl⟩ rfl rfl rfl rfl rfl (by kernel_rfl) Try.func4 (by kernel_rfl)
    (of_decide_eq_true (by kernel_rfl)) (by unfold Func.isWrapper; first | (rw [if_pos (by decide +kernel)]; kernel_rfl) | (rw [if_neg (by decide +kernel)]; exact ⟨rfl, rfl⟩))
    (fun os started H enc _ => lifted os started H enc)
end Go.Proofs.Ytgljbdobgmaofaa.GroupNew
namespace Go.Proofs.Ytgljbdobgmaofaa
theorem groupNew_holds : Rows.FnExactGroupNewSaid := GroupNew.proved
end Go.Proofs.Ytgljbdobgmaofaa
