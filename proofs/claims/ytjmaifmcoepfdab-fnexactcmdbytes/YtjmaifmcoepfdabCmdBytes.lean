/-
  FnExactCmdBytes: at every input the program's answer is the specification's, byte by byte; its answer owns its memory, behind another call too. No condition.
-/
import Derived.Test.YtjmaifmcoepfdabCmdB
import Derived.Test.YtjmaifmcoepfdabBSl
import Derived.ChangeMaps5
namespace Go.Proofs.Ytjmaifmcoepfdab.CmdBytes
open Go.ChangeShapes Go.WideShapes Go.ChangeAt Go.RowKit Go.Joins Go.Deep Base Gen
set_option linter.unusedVariables false

theorem own : ownKnob Try.prog.godebug = none := by kernel_rfl
theorem laidOut : laidOutB Try.prog = true := by kernel_rfl

set_option maxRecDepth 100000 in
set_option maxHeartbeats 4000000 in
theorem law_any (who seq op a b c : Int) (k t : ByteArray) (hk : k.size ≤ 9223372036854775807) (ht : t.size ≤ 9223372036854775807) (w : World) :
    Calls Try.prog 3 #[.agg #[.int .i64 who, .int .i64 seq, .int .i64 op, .int .i64 a, .int .i64 b, .int .i64 c, .string k, .string t]] w fun e w' => e = .returned (.bool true) ∧ Below w.heap.size w w' := by
  have HI := hidP (fun W => implCmdBytes_any who seq op a b c k t hk ht W)
  have HLe : Hid ((cmO who seq op a b c k t).length ≤ 10000000) := hidP (cmO_le who seq op a b c k t)
  go_enter Try.func3, Try.ntmps3
  go_wp2_with fail
  refine (Cmd.sz_any who seq op a b c k t hk ht _).mono ?_
  rintro e w0 ⟨rfl, g0⟩
  have p0 := (Blk.new w 23 #[.int .i64 who, .int .i64 seq, .int .i64 op, .int .i64 a, .int .i64 b, .int .i64 c, .string k, .string t]).below g0 (by simp)
  have B0 := via0 g0 (alloc0 (Below.refl _ w) _)
  have q0 := p0.lt
  have Hp := hidP p0
  have d0 := p0.cell (i := 0) rfl; have d1 := p0.cell (i := 1) rfl; have d2 := p0.cell (i := 2) rfl; have d3 := p0.cell (i := 3) rfl; have d4 := p0.cell (i := 4) rfl; have d5 := p0.cell (i := 5) rfl; have d6 := p0.cell (i := 6) rfl; have d7 := p0.cell (i := 7) rfl
  clear p0 g0
  by_cases hz : Cmd.szR k.size t.size < 0
  · go_wp2
    go_ret
    exact ⟨rfl, B0⟩
  go_wp2_with fail
  refine (Cmd.to_any who seq op a b c k t _).mono ?_
  rintro e w0b ⟨rfl, g0b⟩
  replace B0 := via0 g0b B0
  have Hp0 := hidP (Hp.out.below g0b Hp.out.lt)
  clear d0 d1 d2 d3 d4 d5 d6 d7 q0 g0b Hp
  go_wp2_with fail
  refine (specCmdBytes_any who seq op a b c k t hk ht _).mono ?_
  rintro e w1 ⟨aS, cS, rfl, g1, O1⟩
  generalize hL : cmO who seq op a b c k t = L at *
  have B1 : Below w.heap.size w w1 := via0 g1 B0
  obtain ⟨FS, S1, _⟩ := sl_own O1
  have s01 := B1.size
  have HS1 := hidP S1
  have loS : Hid (∀ x ∈ FS, x < w1.heap.size) := hidP S1.lt
  have Hp1 := hidP (Hp0.out.below g1 Hp0.out.lt)
  have Hlt := hidP Hp1.out.lt
  have q0 := Hp1.out.lt
  have d0 := Hp1.out.cell (i := 0) rfl; have d1 := Hp1.out.cell (i := 1) rfl; have d2 := Hp1.out.cell (i := 2) rfl; have d3 := Hp1.out.cell (i := 3) rfl; have d4 := Hp1.out.cell (i := 4) rfl; have d5 := Hp1.out.cell (i := 5) rfl; have d6 := Hp1.out.cell (i := 6) rfl; have d7 := Hp1.out.cell (i := 7) rfl
  clear S1 O1 hL g1
  go_wp2_with fail
  refine (Cmd.to_any who seq op a b c k t _).mono ?_
  rintro e w1b ⟨rfl, g1b⟩
  replace B1 := via0 g1b B1
  replace HS1 := hidP (HS1.out.below g1b)
  replace Hp1 := hidP (Hp1.out.below g1b Hp1.out.lt)
  have s1b := hidP g1b.size
  clear g1b d0 d1 d2 d3 d4 d5 d6 d7 q0
  go_wp2_with fail
  refine (HI.out _).mono ?_
  rintro e w2 ⟨aI, cI, rfl, g2, O2⟩
  obtain ⟨FI, S2, l2⟩ := sl_own O2
  have B2 : Below w.heap.size w w2 := via0 g2 B1
  have lo2 : Hid (∀ x ∈ FI, w1.heap.size ≤ x) := hidP (fun x hx => Nat.le_trans s1b.out (l2 x hx))
  have HS2 := hidP (HS1.out.below g2)
  have HG2 := hidP S2
  have Hp2 := hidP (Hp1.out.below g2 Hp1.out.lt)
  clear S2 O2 l2 g2 B1 HS1
  go_wp2_with fail
  refine (eqB_same aI aS cI cS L (by have := HLe.out; omega) _ HG2.out.at HS2.out.at).mono ?_
  rintro e w3 ⟨rfl, g3⟩
  have B3 := via0 g3 B2
  have HS3 := hidP (HS2.out.below g3)
  have HG3 := hidP (HG2.out.below g3)
  have Hp3 := hidP (Hp2.out.below g3 Hp2.out.lt)
  clear HS2 HG2 g3 B2
  go_wp2_with fail
  refine (markSl_any aI cI L FI (by have := HLe.out; omega) _ HG3.out).mono ?_
  rintro e w4 ⟨rfl, f4, G4⟩
  have B4 : Below w.heap.size w w4 := Below.trans B3 (f4.toBelow (fun x hx => Nat.le_trans s01 (lo2.out x hx)) B3.size)
  have HS4 := hidP (HS3.out.off f4 (fun x hx hy => by have := lo2.out _ hy; have := loS.out x hx; omega))
  have HG4 := hidP G4
  have Hp4 := hidP (Hp3.out.off f4 (fun hx => by have := lo2.out _ hx; have := Hlt.out; omega))
  clear HS3 HG3 f4 G4 B3
  have n4 : ¬ (1 + (L.length : Int) < 0) := by omega
  go_wp2_with fail
  refine (heldSl_any aI cI L.length FI (by have := HLe.out; omega) _ HG4.out).mono ?_
  rintro e w5 ⟨rfl, g5⟩
  have B5 := via0 g5 B4
  have HS5 := hidP (HS4.out.below g5)
  have HG5 := hidP (HG4.out.below g5)
  have Hp5 := hidP (Hp4.out.below g5 Hp4.out.lt)
  have q0 := Hp5.out.lt
  have d0 := Hp5.out.cell (i := 0) rfl; have d1 := Hp5.out.cell (i := 1) rfl; have d2 := Hp5.out.cell (i := 2) rfl; have d3 := Hp5.out.cell (i := 3) rfl; have d4 := Hp5.out.cell (i := 4) rfl; have d5 := Hp5.out.cell (i := 5) rfl; have d6 := Hp5.out.cell (i := 6) rfl; have d7 := Hp5.out.cell (i := 7) rfl
  clear HS4 HG4 g5 B4
  go_wp2_with fail
  refine (Cmd.to_any who seq op a b c k t _).mono ?_
  rintro e w5b ⟨rfl, g5b⟩
  replace B5 := via0 g5b B5
  replace HS5 := hidP (HS5.out.below g5b)
  replace HG5 := hidP (HG5.out.below g5b)
  clear g5b d0 d1 d2 d3 d4 d5 d6 d7 q0
  go_wp2_with fail
  refine (HI.out _).mono ?_
  rintro e w6 ⟨aH, cH, rfl, g6, O6⟩
  obtain ⟨FH, S6, _⟩ := sl_own O6
  have B6 := via0 g6 B5
  have HS6 := hidP (HS5.out.below g6)
  have HG6 := hidP (HG5.out.below g6)
  have HH6 := hidP S6
  clear HS5 HG5 g6 B5 O6 S6
  go_wp2_with fail
  refine (eqB_same aH aS cH cS L (by have := HLe.out; omega) _ HH6.out.at HS6.out.at).mono ?_
  rintro e w7 ⟨rfl, g7⟩
  have B7 := via0 g7 B6
  have HG7 := hidP (HG6.out.below g7)
  clear HS6 HG6 HH6 g7 B6
  go_wp2_with fail
  refine (heldSl_any aI cI L.length FI (by have := HLe.out; omega) _ HG7.out).mono ?_
  rintro e w8 ⟨rfl, g8⟩
  have B8 := via0 g8 B7
  go_wp2
  go_ret
  exact ⟨rfl, B8⟩

set_option maxRecDepth 100000 in
theorem contract (H : Type) (enc : TypeId × Value → H) (W : World) (base : Nat) (args : Array Value) (ds gs : List (DataW H)) (before : List MemPlace)
    (hval : ∀ (j : Nat) t v, Try.f3.params[j]? = some t → args[j]? = some v → Value.okWide Try.prog W .any base t v)
    (hW : DataW.Whole enc Try.prog Try.f3.params.toList Rows.fnExactCmdBytesSpec.vars false W args.toList ds gs before) :
    Calls Try.prog 3 args W fun e W' => ∃ v, e = .returned v ∧ Rows.fnExactCmdBytesSpec.post enc Try.prog Try.f3 false true false false W args v W' := by
  have hW' := hW
  obtain ⟨p, q, hA0, hV, rfl, hfz, hnd⟩ := hW
  have hA : DataW.TrodAll enc Try.prog W 0 (fun _ => true) true Try.f3.params.toList args.toList ds p := hA0
  rw [Try.params3] at hA hval
  obtain ⟨v0, vs0, d0, ds0, p0, q0, e0, rfl, rfl, h0, r0⟩ := trodAll_cons hA
  obtain ⟨rfl, rfl, rfl⟩ := trodAll_nil r0
  have e0' : args = #[v0] := by cases args; simp_all
  subst e0'
  obtain ⟨rfl, rfl⟩ := trodVars_none hV
  obtain ⟨who, seq, op, a, b, c, k, t, rfl, hk, ht, _⟩ := Cmd.open_cmd (hval 0 23 v0 rfl rfl) h0
  refine (law_any who seq op a b c k t hk ht W).mono fun e W' ⟨he, hb⟩ => ?_
  subst he
  exact ⟨_, rfl, post_true laidOut (by kernel_rfl) (by kernel_rfl) Try.underlying4 rfl rfl hW' hb⟩

set_option maxRecDepth 100000 in
theorem lifted (os : Os) (started : os.Started) (H : Type) (enc : TypeId × Value → H) :
    ReturnsInHanded {} Try.checked os 3 .any (Rows.fnExactCmdBytesSpec.pre6 enc Try.prog Try.f3 Rows.fnExactCmdBytesRow.domain false) (Rows.fnExactCmdBytesSpec.post enc Try.prog Try.f3 false true false false) := by
  refine returnsInHanded_of_change (C := Try.checked) own started (by kernel_rfl) Try.func3
    (ChangeSpec.witness6 (enc := enc) (C := Try.checked) false ⟨#[], #[.agg #[.int .i64 (-1), .int .i64 0, .int .i64 0, .int .i64 0, .int .i64 0, .int .i64 0, .string ⟨#[]⟩, .string ⟨#[]⟩]], []⟩ 8 (by kernel_rfl) (by kernel_rfl) (by kernel_rfl) (by kernel_rfl)) ?_
  intro W base args ds gs before hval0 hW _ _
  exact contract H enc W base args ds gs before hval0 hW

theorem proved : Rows.FnExactCmdBytesSaid :=
  OpenClaim.holds_of_wide 3 Try.f3 rfl rfl rfl rfl rfl rfl rfl ⟨rfl, rfl, rfl, rfl, rfl⟩ rfl rfl rfl rfl rfl (by kernel_rfl) Try.func3 (by kernel_rfl)
    (of_decide_eq_true (by kernel_rfl)) (by unfold Func.isWrapper; first | (rw [if_pos (by decide +kernel)]; kernel_rfl) | (rw [if_neg (by decide +kernel)]; exact ⟨rfl, rfl⟩))
    (fun os started H enc _ => lifted os started H enc)
end Go.Proofs.Ytjmaifmcoepfdab.CmdBytes
namespace Go.Proofs.Ytjmaifmcoepfdab
theorem cmdBytes_holds : Rows.FnExactCmdBytesSaid := CmdBytes.proved
end Go.Proofs.Ytjmaifmcoepfdab
