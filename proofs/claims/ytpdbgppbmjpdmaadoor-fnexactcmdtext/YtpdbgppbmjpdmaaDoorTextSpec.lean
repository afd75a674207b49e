/-
  spec.CmdText at this seat. No condition but the lengths of the texts.
-/
import Derived.Test.YtpdbgppbmjpdmaaDoorTextParts
import Derived.Deep.RegionHeld3
namespace Go.Proofs.YtpdbgppbmjpdmaaDoor.CmdText
open Go.ChangeShapes Go.WideShapes Go.ChangeAt Go.RowKit Base
set_option linter.unusedVariables false

/-- Two calls behind one another, and memory made: no side conditions. -/
theorem via0 {a b c : World} (k : Below b.heap.size b c) (h : Below a.heap.size a b) : Below a.heap.size a c := h.trans (k.mono h.size)
theorem alloc0 {a b : World} (h : Below a.heap.size a b) (o : Obj) : Below a.heap.size a (b.alloc o) := h.alloc h.size o

/-- What is shown of a command of somebody. -/
def shown (who seq a b c : Int) (k t n : ByteArray) : ByteArray :=
  dg who ++ ⟨#[46]⟩ ++ dg seq ++ ⟨#[32]⟩ ++ n ++ ⟨#[32]⟩ ++ dg a ++ ⟨#[32]⟩ ++ dg b ++ ⟨#[32]⟩ ++ dg c ++ ⟨#[32, 60]⟩ ++ k ++ ⟨#[62, 32, 60]⟩ ++ t ++ ⟨#[62]⟩

/-- Two texts put together: the sum has a name of its own. -/
theorem cat (x y : ByteArray) (n m : Nat) (hx : x.size ≤ n) (hy : y.size ≤ m) (h : n + m ≤ 8388608) :
    ∃ z : ByteArray, Hid (z = x ++ y) ∧ z.size ≤ n + m ∧ ∀ w : World, (Op.stringOp .add x y).run Tryd.prog w = .ok (.string z) w := by
  refine ⟨x ++ y, rfl, by simp [ByteArray.size_append]; omega, fun w => run_string_add_sum w x y (by omega)⟩

theorem spec_nobody (seq op a b c : Int) (k t : ByteArray) (w : World) :
    Calls Tryd.prog 8 #[.agg #[.int .i64 (-1), .int .i64 seq, .int .i64 op, .int .i64 a, .int .i64 b, .int .i64 c, .string k, .string t]] w fun e w' => e = .returned (.string ⟨#[110, 111, 98, 111, 100, 121]⟩) ∧ Below w.heap.size w w' := by
  go_enter Tryd.func8, Tryd.ntmps8
  go_wp2
  go_ret
  exact ⟨rfl, by repeat (first | exact Below.refl _ _ | (refine via (by assumption) (by first | omega | (simp; done) | (simp; omega)) ?_) | refine Below.drew ?_ | refine Below.setCell ?_ (by first | omega | (simp; done) | (simp; omega)) _ | refine Below.alloc ?_ (by first | omega | (simp; done) | (simp; omega)) _)⟩

set_option maxRecDepth 100000 in
set_option maxHeartbeats 3200000 in
theorem spec_out (who seq op a b c : Int) (k t : ByteArray) (hk : k.size ≤ 1048576) (ht : t.size ≤ 1048576) (hw : (who == -1) = false)
    (hb : ∀ x, x = who ∨ x = seq ∨ x = op ∨ x = a ∨ x = b ∨ x = c → -9223372036854775808 ≤ x ∧ x ≤ 9223372036854775807) (h : inB op 0 10 = false) (w : World) :
    Calls Tryd.prog 8 #[.agg #[.int .i64 who, .int .i64 seq, .int .i64 op, .int .i64 a, .int .i64 b, .int .i64 c, .string k, .string t]] w fun e w' => e = .returned (.string (shown who seq a b c k t (⟨#[110, 111, 110, 101]⟩))) ∧ Below w.heap.size w w' := by
  have d0 := dg_size who (hb who (by simp))
  have d1 := dg_size seq (hb seq (by simp))
  have d3 := dg_size a (hb a (by simp))
  have d4 := dg_size b (hb b (by simp))
  have d5 := dg_size c (hb c (by simp))
  have B0 : Hid (-9223372036854775808 ≤ who ∧ who ≤ 9223372036854775807) := hb who (by simp)
  have B1 : Hid (-9223372036854775808 ≤ seq ∧ seq ≤ 9223372036854775807) := hb seq (by simp)
  have B3 : Hid (-9223372036854775808 ≤ a ∧ a ≤ 9223372036854775807) := hb a (by simp)
  have B4 : Hid (-9223372036854775808 ≤ b ∧ b ≤ 9223372036854775807) := hb b (by simp)
  have B5 : Hid (-9223372036854775808 ≤ c ∧ c ≤ 9223372036854775807) := hb c (by simp)
  obtain ⟨x1, e1, z1, r1⟩ := cat (dg who) (⟨#[46]⟩) 21 1 d0 (show (ByteArray.mk #[46]).size ≤ 1 from Nat.le_refl _) (by omega)
  obtain ⟨x2, e2, z2, r2⟩ := cat (x1) (dg seq) 22 21 z1 d1 (by omega)
  obtain ⟨x3, e3, z3, r3⟩ := cat (x2) (⟨#[32]⟩) 43 1 z2 (show (ByteArray.mk #[32]).size ≤ 1 from Nat.le_refl _) (by omega)
  obtain ⟨x4, e4, z4, r4⟩ := cat (x3) (⟨#[110, 111, 110, 101]⟩) 44 5 z3 (show (ByteArray.mk #[110, 111, 110, 101]).size ≤ 5 from by decide) (by omega)
  obtain ⟨x5, e5, z5, r5⟩ := cat (x4) (⟨#[32]⟩) 49 1 z4 (show (ByteArray.mk #[32]).size ≤ 1 from Nat.le_refl _) (by omega)
  obtain ⟨x6, e6, z6, r6⟩ := cat (x5) (dg a) 50 21 z5 d3 (by omega)
  obtain ⟨x7, e7, z7, r7⟩ := cat (x6) (⟨#[32]⟩) 71 1 z6 (show (ByteArray.mk #[32]).size ≤ 1 from Nat.le_refl _) (by omega)
  obtain ⟨x8, e8, z8, r8⟩ := cat (x7) (dg b) 72 21 z7 d4 (by omega)
  obtain ⟨x9, e9, z9, r9⟩ := cat (x8) (⟨#[32]⟩) 93 1 z8 (show (ByteArray.mk #[32]).size ≤ 1 from Nat.le_refl _) (by omega)
  obtain ⟨x10, e10, z10, r10⟩ := cat (x9) (dg c) 94 21 z9 d5 (by omega)
  obtain ⟨x11, e11, z11, r11⟩ := cat (x10) (⟨#[32, 60]⟩) 115 2 z10 (show (ByteArray.mk #[32, 60]).size ≤ 2 from Nat.le_refl _) (by omega)
  obtain ⟨x12, e12, z12, r12⟩ := cat (x11) (k) 117 1048576 z11 hk (by omega)
  obtain ⟨x13, e13, z13, r13⟩ := cat (x12) (⟨#[62, 32, 60]⟩) 1048693 3 z12 (show (ByteArray.mk #[62, 32, 60]).size ≤ 3 from Nat.le_refl _) (by omega)
  obtain ⟨x14, e14, z14, r14⟩ := cat (x13) (t) 1048696 1048576 z13 ht (by omega)
  obtain ⟨x15, e15, z15, r15⟩ := cat (x14) (⟨#[62]⟩) 2097272 1 z14 (show (ByteArray.mk #[62]).size ≤ 1 from Nat.le_refl _) (by omega)
  clear hb d0 d1 d3 d4 d5 z1 z2 z3 z4 z5 z6 z7 z8 z9 z10 z11 z12 z13 z14 z15 hk ht
  go_enter Tryd.func8, Tryd.ntmps8
  go_wp2_with (go_at_call 12; refine (in_any _ _ _ _).mono ?_; rintro e w' ⟨rfl, rfl⟩)
  go_region_held3 (fun w' => w'.cell? ⟨w.heap.size, 0, none⟩ = some (.int .i64 who) ∧ w'.cell? ⟨w.heap.size, 1, none⟩ = some (.int .i64 seq) ∧ w'.cell? ⟨w.heap.size, 3, none⟩ = some (.int .i64 a) ∧ w'.cell? ⟨w.heap.size, 4, none⟩ = some (.int .i64 b) ∧ w'.cell? ⟨w.heap.size, 5, none⟩ = some (.int .i64 c) ∧ w'.cell? ⟨w.heap.size, 6, none⟩ = some (.string k) ∧ w'.cell? ⟨w.heap.size, 7, none⟩ = some (.string t) ∧ w'.cell? ⟨w.heap.size + 1, 0, none⟩ = some (.string (⟨#[110, 111, 110, 101]⟩)) ∧ w.heap.size + 1 < w'.heap.size)
    (first | (refine ⟨?_, ?_, ?_, ?_, ?_, ?_, ?_, ?_, ?_⟩ <;> first | (rw [c1 _ _ (by first | omega | (simp; done) | (simp; omega))]; first | assumption | (simp [*]; done)) | omega | (simp at s1; omega)) | go_keep)
    (first
      | (go_at_call_of 5 (Value.int .i64 who); refine (specD who B0.out _).mono ?_; rintro e w1 ⟨rfl, g1⟩; obtain ⟨c1, f1⟩ := bcell g1; have s1 := g1.size)
      | (go_at_call_of 5 (Value.int .i64 seq); refine (specD seq B1.out _).mono ?_; rintro e w1 ⟨rfl, g1⟩; obtain ⟨c1, f1⟩ := bcell g1; have s1 := g1.size)
      | (go_at_call_of 5 (Value.int .i64 a); refine (specD a B3.out _).mono ?_; rintro e w1 ⟨rfl, g1⟩; obtain ⟨c1, f1⟩ := bcell g1; have s1 := g1.size)
      | (go_at_call_of 5 (Value.int .i64 b); refine (specD b B4.out _).mono ?_; rintro e w1 ⟨rfl, g1⟩; obtain ⟨c1, f1⟩ := bcell g1; have s1 := g1.size)
      | (go_at_call_of 5 (Value.int .i64 c); refine (specD c B5.out _).mono ?_; rintro e w1 ⟨rfl, g1⟩; obtain ⟨c1, f1⟩ := bcell g1; have s1 := g1.size))
  all_goals
    go_wp2
    go_ret
    refine ⟨?_, ?_⟩
    · obtain rfl := e15.out; obtain rfl := e14.out; obtain rfl := e13.out; obtain rfl := e12.out; obtain rfl := e11.out; obtain rfl := e10.out; obtain rfl := e9.out; obtain rfl := e8.out; obtain rfl := e7.out; obtain rfl := e6.out; obtain rfl := e5.out; obtain rfl := e4.out; obtain rfl := e3.out; obtain rfl := e2.out; obtain rfl := e1.out; rfl
    · repeat (first | exact Below.refl _ _ | refine via0 (by assumption) ?_ | refine Below.drew ?_ | refine alloc0 ?_ _)
end Go.Proofs.YtpdbgppbmjpdmaaDoor.CmdText
