/-
  FnExactCmdOf: at every input the program's answer is the specification's; it writes into no argument. No condition.
-/
import Derived.Test.YtjmaifmcoepfdabCmdO
import Derived.ChangeMaps5
namespace Go.Proofs.Ytjmaifmcoepfdab.CmdOfL
open Go.ChangeShapes Go.WideShapes Go.ChangeAt Go.RowKit Go.Joins Go.Deep Base Gen
set_option linter.unusedVariables false

theorem own : ownKnob Try.prog.godebug = none := by kernel_rfl
theorem laidOut : laidOutB Try.prog = true := by kernel_rfl

theorem form (o : Option (Cm × Nat)) : ∃ (x : Cm) (C : Int) (B : Bool), ofT o = .tuple #[.agg #[.int .i64 x.who, .int .i64 x.seq, .int .i64 x.op, .int .i64 x.a, .int .i64 x.b, .int .i64 x.c, .string x.k, .string x.t], .int .i64 C, .bool B] := by
  cases o with
  | none => exact ⟨Cm.zero, _, _, rfl⟩
  | some y => exact ⟨y.1, _, _, rfl⟩
set_option maxHeartbeats 1000000 in
theorem eqC_same (x : Cm) (w : World) : Calls Try.prog 15 #[.agg #[.int .i64 x.who, .int .i64 x.seq, .int .i64 x.op, .int .i64 x.a, .int .i64 x.b, .int .i64 x.c, .string x.k, .string x.t], .agg #[.int .i64 x.who, .int .i64 x.seq, .int .i64 x.op, .int .i64 x.a, .int .i64 x.b, .int .i64 x.c, .string x.k, .string x.t]] w fun e w' => e = .returned (.bool true) ∧ Below w.heap.size w w' := by
  go_enter Try.func15, Try.ntmps15
  go_wp2
  go_ret
  exact ⟨rfl, by repeat (first | exact Below.refl _ _ | refine Below.drew ?_ | refine alloc0 ?_ _)⟩

set_option maxRecDepth 100000 in
set_option maxHeartbeats 4000000 in
theorem law_any (A : Option Addr) (cap : Nat) (l : List UInt8) (hl : l.length ≤ 9223372036854775807) (i : Int) (hi : I64 i) (w : World) (hA : At w A l) :
    Calls Try.prog 4 #[.slice A l.length cap, .int .i64 i] w fun e w' => e = .returned (.bool true) ∧ Below w.heap.size w w' := by
  have HA := hidP hA
  by_cases hs : ¬ l.length ≤ 1048576
  · have h1 : (1048576 : Int) < (l.length : Int) := by omega
    clear hs hA hi
    go_enter Try.func4, Try.ntmps4
    go_wp2
    go_ret
    exact ⟨rfl, Below.refl _ _⟩
  replace hs : l.length ≤ 1048576 := Decidable.not_not.1 hs
  have hs1 : ¬ ((1048576 : Int) < (l.length : Int)) := by omega
  have HS := hidP (fun (a : Option Addr) (W : World) (h : At W a l) => specCmdOf_any a l.length l hs (Nat.le_refl _) hl i hi W h)
  have HI := hidP (fun (a : Option Addr) (W : World) (h : At W a l) => implCmdOf_any a l.length l hs (Nat.le_refl _) hl i hi W h)
  obtain ⟨x, C, B, hT⟩ := form (ofC l i)
  rw [hT] at HS HI
  clear hT hA hi
  go_enter Try.func4, Try.ntmps4
  go_wp2_with fail
  refine (toB_any A cap l hs _ HA.out).mono ?_
  rintro e w1 ⟨rfl, B1, s1, i1, _⟩
  have H1 : Hid (At w1 (some ⟨w.heap.size, 0, none⟩) l) := hidP (.inr ⟨_, _, rfl, s1, i1⟩)
  have HA1 := hidP (HA.out.below B1)
  clear i1 s1
  go_wp2_with fail
  refine (HS.out _ _ H1.out).mono ?_
  rintro e w1b ⟨rfl, g1b⟩
  replace B1 := alloc0 (via0 g1b B1) (.cells #[.int .i64 x.who, .int .i64 x.seq, .int .i64 x.op, .int .i64 x.a, .int .i64 x.b, .int .i64 x.c, .string x.k, .string x.t] 27)
  have b1 := Blk.new w1b 27 #[.int .i64 x.who, .int .i64 x.seq, .int .i64 x.op, .int .i64 x.a, .int .i64 x.b, .int .i64 x.c, .string x.k, .string x.t]
  replace HA1 := hidP ((HA1.out.below g1b).below (alloc0 (Below.refl _ w1b) (.cells #[.int .i64 x.who, .int .i64 x.seq, .int .i64 x.op, .int .i64 x.a, .int .i64 x.b, .int .i64 x.c, .string x.k, .string x.t] 27)))
  have Hb1 := hidP b1
  clear H1 g1b b1
  go_wp2_with fail
  refine (toB_any A cap l hs _ HA1.out).mono ?_
  rintro e w2 ⟨rfl, g2, s2, i2, _⟩
  have H2 : Hid (At w2 (some ⟨w1b.heap.size + 1, 0, none⟩) l) := hidP (.inr ⟨w1b.heap.size + 1, 0, rfl, by simpa using s2, by simpa using i2⟩)
  have B2 := via0 g2 B1
  have HA2 := hidP (HA1.out.below g2)
  have Hb2 := hidP (Hb1.out.below g2 Hb1.out.lt)
  clear i2 g2 s2 B1 HA1 Hb1
  go_wp2_with fail
  refine (HI.out _ _ H2.out).mono ?_
  rintro e w3 ⟨rfl, g3⟩
  have a3 := alloc0 (Below.refl _ w3) (.cells #[.int .i64 x.who, .int .i64 x.seq, .int .i64 x.op, .int .i64 x.a, .int .i64 x.b, .int .i64 x.c, .string x.k, .string x.t] 27)
  have B3 := via0 a3 (via0 g3 B2)
  have H3 := hidP ((H2.out.below g3).below a3)
  have HA3 := hidP ((HA2.out.below g3).below a3)
  have b3 := (Hb2.out.below g3 Hb2.out.lt).alloc (.cells #[.int .i64 x.who, .int .i64 x.seq, .int .i64 x.op, .int .i64 x.a, .int .i64 x.b, .int .i64 x.c, .string x.k, .string x.t] 27)
  have y3 := Blk.new w3 27 #[.int .i64 x.who, .int .i64 x.seq, .int .i64 x.op, .int .i64 x.a, .int .i64 x.b, .int .i64 x.c, .string x.k, .string x.t]
  have qb := b3.lt
  have qy := y3.lt
  have hlt3 : w1b.heap.size < w3.heap.size := Nat.lt_of_lt_of_le Hb2.out.lt g3.size
  have d0 : (w3.alloc (.cells #[.int .i64 x.who, .int .i64 x.seq, .int .i64 x.op, .int .i64 x.a, .int .i64 x.b, .int .i64 x.c, .string x.k, .string x.t] 27)).cell? ⟨w1b.heap.size, 0, none⟩ = some (.int .i64 x.who) := b3.cell (i := 0) rfl
  have d1 : (w3.alloc (.cells #[.int .i64 x.who, .int .i64 x.seq, .int .i64 x.op, .int .i64 x.a, .int .i64 x.b, .int .i64 x.c, .string x.k, .string x.t] 27)).cell? ⟨w1b.heap.size, 1, none⟩ = some (.int .i64 x.seq) := b3.cell (i := 1) rfl
  have d2 : (w3.alloc (.cells #[.int .i64 x.who, .int .i64 x.seq, .int .i64 x.op, .int .i64 x.a, .int .i64 x.b, .int .i64 x.c, .string x.k, .string x.t] 27)).cell? ⟨w1b.heap.size, 2, none⟩ = some (.int .i64 x.op) := b3.cell (i := 2) rfl
  have d3 : (w3.alloc (.cells #[.int .i64 x.who, .int .i64 x.seq, .int .i64 x.op, .int .i64 x.a, .int .i64 x.b, .int .i64 x.c, .string x.k, .string x.t] 27)).cell? ⟨w1b.heap.size, 3, none⟩ = some (.int .i64 x.a) := b3.cell (i := 3) rfl
  have d4 : (w3.alloc (.cells #[.int .i64 x.who, .int .i64 x.seq, .int .i64 x.op, .int .i64 x.a, .int .i64 x.b, .int .i64 x.c, .string x.k, .string x.t] 27)).cell? ⟨w1b.heap.size, 4, none⟩ = some (.int .i64 x.b) := b3.cell (i := 4) rfl
  have d5 : (w3.alloc (.cells #[.int .i64 x.who, .int .i64 x.seq, .int .i64 x.op, .int .i64 x.a, .int .i64 x.b, .int .i64 x.c, .string x.k, .string x.t] 27)).cell? ⟨w1b.heap.size, 5, none⟩ = some (.int .i64 x.c) := b3.cell (i := 5) rfl
  have d6 : (w3.alloc (.cells #[.int .i64 x.who, .int .i64 x.seq, .int .i64 x.op, .int .i64 x.a, .int .i64 x.b, .int .i64 x.c, .string x.k, .string x.t] 27)).cell? ⟨w1b.heap.size, 6, none⟩ = some (.string x.k) := b3.cell (i := 6) rfl
  have d7 : (w3.alloc (.cells #[.int .i64 x.who, .int .i64 x.seq, .int .i64 x.op, .int .i64 x.a, .int .i64 x.b, .int .i64 x.c, .string x.k, .string x.t] 27)).cell? ⟨w1b.heap.size, 7, none⟩ = some (.string x.t) := b3.cell (i := 7) rfl
  have m0 : w3.cell? ⟨w1b.heap.size, 0, none⟩ = some (.int .i64 x.who) := (Hb2.out.below g3 Hb2.out.lt).cell (i := 0) rfl
  have m1 : w3.cell? ⟨w1b.heap.size, 1, none⟩ = some (.int .i64 x.seq) := (Hb2.out.below g3 Hb2.out.lt).cell (i := 1) rfl
  have m2 : w3.cell? ⟨w1b.heap.size, 2, none⟩ = some (.int .i64 x.op) := (Hb2.out.below g3 Hb2.out.lt).cell (i := 2) rfl
  have m3 : w3.cell? ⟨w1b.heap.size, 3, none⟩ = some (.int .i64 x.a) := (Hb2.out.below g3 Hb2.out.lt).cell (i := 3) rfl
  have m4 : w3.cell? ⟨w1b.heap.size, 4, none⟩ = some (.int .i64 x.b) := (Hb2.out.below g3 Hb2.out.lt).cell (i := 4) rfl
  have m5 : w3.cell? ⟨w1b.heap.size, 5, none⟩ = some (.int .i64 x.c) := (Hb2.out.below g3 Hb2.out.lt).cell (i := 5) rfl
  have m6 : w3.cell? ⟨w1b.heap.size, 6, none⟩ = some (.string x.k) := (Hb2.out.below g3 Hb2.out.lt).cell (i := 6) rfl
  have m7 : w3.cell? ⟨w1b.heap.size, 7, none⟩ = some (.string x.t) := (Hb2.out.below g3 Hb2.out.lt).cell (i := 7) rfl
  clear g3 B2 H2 HA2 a3 b3 y3 Hb2
  go_wp2_with fail
  refine (eqC_same x _).mono ?_
  rintro e w4 ⟨rfl, g4⟩
  replace B3 := via0 g4 B3
  replace H3 := hidP (H3.out.below g4)
  replace HA3 := hidP (HA3.out.below g4)
  clear d0 m0 d1 m1 d2 m2 d3 m3 d4 m4 d5 m5 d6 m6 d7 m7 qb qy hlt3 g4
  go_wp2_with fail
  refine (toB_any A cap l hs _ HA3.out).mono ?_
  rintro e w5 ⟨rfl, g4, s4, i4, _⟩
  have H4 : Hid (At w5 (some ⟨w4.heap.size, 0, none⟩) l) := hidP (.inr ⟨_, _, rfl, s4, i4⟩)
  have H4' := hidP (H3.out.below g4)
  have B4 := via0 g4 B3
  clear i4 g4 s4 B3 H3 HA3
  go_wp2_with fail
  refine (eqB_same _ _ _ _ l (by omega) _ H4'.out H4.out).mono ?_
  rintro e w6 ⟨rfl, g5⟩
  have B5 := via0 g5 B4
  go_wp2
  go_ret
  exact ⟨rfl, B5⟩

set_option maxRecDepth 100000 in
theorem contract (H : Type) (enc : TypeId × Value → H) (W : World) (base : Nat) (args : Array Value) (ds gs : List (DataW H)) (before : List MemPlace)
    (hval : ∀ (j : Nat) t v, Try.f4.params[j]? = some t → args[j]? = some v → Value.okWide Try.prog W .any base t v)
    (hW : DataW.Whole enc Try.prog Try.f4.params.toList Rows.fnExactCmdOfSpec.vars false W args.toList ds gs before) :
    Calls Try.prog 4 args W fun e W' => ∃ v, e = .returned v ∧ Rows.fnExactCmdOfSpec.post enc Try.prog Try.f4 false true false false W args v W' := by
  have hW' := hW
  obtain ⟨p, q, hA0, hV, rfl, hfz, hnd⟩ := hW
  have hA : DataW.TrodAll enc Try.prog W 0 (fun _ => true) true Try.f4.params.toList args.toList ds p := hA0
  rw [Try.params4] at hA hval
  obtain ⟨v0, vs0, d0, ds0, p0, q0, e0, rfl, rfl, h0, r0⟩ := trodAll_cons hA
  obtain ⟨v1, vs1, d1, ds1, p1, q1, e1, rfl, rfl, h1, r1⟩ := trodAll_cons r0
  obtain ⟨rfl, rfl, rfl⟩ := trodAll_nil r1
  have e0' : args = #[v0, v1] := by cases args; simp_all
  subst e0'
  obtain ⟨rfl, rfl⟩ := trodVars_none hV
  obtain ⟨i, rfl, _, _, j0⟩ := open_int Try.underlying3 (hval 1 3 v1 rfl rfl) h1
  obtain ⟨f0, g0⟩ := h0
  have hv0 := hval 0 25 v0 rfl rfl
  obtain ⟨a, len, c, rfl⟩ := okWide_slice Try.underlying25 hv0
  obtain ⟨A, cap, l, e, hl, hat⟩ := openBs (c := .slice a len c) g0
  rw [e]
  refine (law_any A cap l hl i (i64_of j0) W hat).mono fun e W' ⟨he, hb⟩ => ?_
  subst he
  rw [← e]
  exact ⟨_, rfl, post_true laidOut (by kernel_rfl) (by kernel_rfl) Try.underlying4 rfl rfl hW' hb⟩

set_option maxRecDepth 100000 in
theorem lifted (os : Os) (started : os.Started) (H : Type) (enc : TypeId × Value → H) :
    ReturnsInHanded {} Try.checked os 4 .any (Rows.fnExactCmdOfSpec.pre6 enc Try.prog Try.f4 Rows.fnExactCmdOfRow.domain false) (Rows.fnExactCmdOfSpec.post enc Try.prog Try.f4 false true false false) := by
  refine returnsInHanded_of_change (C := Try.checked) own started (by kernel_rfl) Try.func4
    (ChangeSpec.witness6 (enc := enc) (C := Try.checked) false ⟨#[], #[.slice none 0 0, .int .i64 0], []⟩ 8 (by kernel_rfl) (by kernel_rfl) (by kernel_rfl) (by kernel_rfl)) ?_
  intro W base args ds gs before hval0 hW _ _
  exact contract H enc W base args ds gs before hval0 hW

theorem proved : Rows.FnExactCmdOfSaid :=
  OpenClaim.holds_of_wide 4 Try.f4 rfl rfl rfl rfl rfl rfl rfl ⟨rfl, rfl, rfl, rfl, rfl⟩ rfl rfl rfl rfl rfl (by kernel_rfl) Try.func4 (by kernel_rfl)
    (of_decide_eq_true (by kernel_rfl)) (by unfold Func.isWrapper; first | (rw [if_pos (by decide +kernel)]; kernel_rfl) | (rw [if_neg (by decide +kernel)]; exact ⟨rfl, rfl⟩))
    (fun os started H enc _ => lifted os started H enc)
end Go.Proofs.Ytjmaifmcoepfdab.CmdOfL
namespace Go.Proofs.Ytjmaifmcoepfdab
theorem cmdOf_holds : Rows.FnExactCmdOfSaid := CmdOfL.proved
end Go.Proofs.Ytjmaifmcoepfdab
