/-
  spec.CmdText at this seat, where the Op has a name. No condition but the lengths of the texts.
-/
import Derived.Test.YtpdbgppbmjpdmaaDoorTextSpec
import Derived.Deep.RegionHeld3
namespace Go.Proofs.YtpdbgppbmjpdmaaDoor.CmdText
open Go.ChangeShapes Go.WideShapes Go.ChangeAt Go.RowKit Base
set_option linter.unusedVariables false


theorem cell_names (w : World) (o : Obj) (j : Nat) (hj : j ≤ 10) : ((w.alloc o).alloc (.cells #[.string ⟨#[110, 111, 110, 101]⟩, .string ⟨#[112, 117, 116]⟩, .string ⟨#[103, 101, 116]⟩, .string ⟨#[101, 112, 111, 99, 104]⟩, .string ⟨#[106, 111, 105, 110]⟩, .string ⟨#[108, 101, 97, 118, 101]⟩, .string ⟨#[109, 97, 114, 107]⟩, .string ⟨#[114, 101, 97, 100]⟩, .string ⟨#[116, 105, 99, 107]⟩, .string ⟨#[116, 114, 105, 109]⟩, .string ⟨#[112, 97, 99, 107]⟩] 9)).drew.cell? ⟨w.heap.size + 1, j, none⟩ = some (.string (nm j)) := by
  match j, hj with
  | 0, _ => simp [nm]
  | 1, _ => simp [nm]
  | 2, _ => simp [nm]
  | 3, _ => simp [nm]
  | 4, _ => simp [nm]
  | 5, _ => simp [nm]
  | 6, _ => simp [nm]
  | 7, _ => simp [nm]
  | 8, _ => simp [nm]
  | 9, _ => simp [nm]
  | 10, _ => simp [nm]

set_option maxRecDepth 100000 in
set_option maxHeartbeats 3200000 in
theorem spec_in (who seq op a b c : Int) (k t : ByteArray) (hk : k.size ≤ 1048576) (ht : t.size ≤ 1048576) (hw : (who == -1) = false)
    (hb : ∀ x, x = who ∨ x = seq ∨ x = op ∨ x = a ∨ x = b ∨ x = c → -9223372036854775808 ≤ x ∧ x ≤ 9223372036854775807) (j : Nat) (hj : j ≤ 10) (hop : op = (j : Int)) (w : World) :
    Calls Tryd.prog 8 #[.agg #[.int .i64 who, .int .i64 seq, .int .i64 op, .int .i64 a, .int .i64 b, .int .i64 c, .string k, .string t]] w fun e w' => e = .returned (.string (shown who seq a b c k t (nm j))) ∧ Below w.heap.size w w' := by
  have h : inB op 0 10 = true := by rw [hop]; simp [inB]; omega
  have k0 : (0 : Int) ≤ (j : Int) := by omega
  have k1 : (j : Int) < 11 := by omega
  have k2 : j < 11 := by omega
  subst hop
  have d0 := dg_size who (hb who (by simp))
  have d1 := dg_size seq (hb seq (by simp))
  have d3 := dg_size a (hb a (by simp))
  have d4 := dg_size b (hb b (by simp))
  have d5 := dg_size c (hb c (by simp))
  have B0 : Hid (-9223372036854775808 ≤ who ∧ who ≤ 9223372036854775807) := hb who (by simp)
  have B1 : Hid (-9223372036854775808 ≤ seq ∧ seq ≤ 9223372036854775807) := hb seq (by simp)
  have B3 : Hid (-9223372036854775808 ≤ a ∧ a ≤ 9223372036854775807) := hb a (by simp)
  have B4 : Hid (-9223372036854775808 ≤ b ∧ b ≤ 9223372036854775807) := hb b (by simp)
  have B5 : Hid (-9223372036854775808 ≤ c ∧ c ≤ 9223372036854775807) := hb c (by simp)
  obtain ⟨x1, e1, z1, r1⟩ := cat (dg who) (⟨#[46]⟩) 21 1 d0 (show (ByteArray.mk #[46]).size ≤ 1 from Nat.le_refl _) (by omega)
  obtain ⟨x2, e2, z2, r2⟩ := cat (x1) (dg seq) 22 21 z1 d1 (by omega)
  obtain ⟨x3, e3, z3, r3⟩ := cat (x2) (⟨#[32]⟩) 43 1 z2 (show (ByteArray.mk #[32]).size ≤ 1 from Nat.le_refl _) (by omega)
  obtain ⟨x4, e4, z4, r4⟩ := cat (x3) (nm j) 44 5 z3 (nm_size j) (by omega)
  obtain ⟨x5, e5, z5, r5⟩ := cat (x4) (⟨#[32]⟩) 49 1 z4 (show (ByteArray.mk #[32]).size ≤ 1 from Nat.le_refl _) (by omega)
  obtain ⟨x6, e6, z6, r6⟩ := cat (x5) (dg a) 50 21 z5 d3 (by omega)
  obtain ⟨x7, e7, z7, r7⟩ := cat (x6) (⟨#[32]⟩) 71 1 z6 (show (ByteArray.mk #[32]).size ≤ 1 from Nat.le_refl _) (by omega)
  obtain ⟨x8, e8, z8, r8⟩ := cat (x7) (dg b) 72 21 z7 d4 (by omega)
  obtain ⟨x9, e9, z9, r9⟩ := cat (x8) (⟨#[32]⟩) 93 1 z8 (show (ByteArray.mk #[32]).size ≤ 1 from Nat.le_refl _) (by omega)
  obtain ⟨x10, e10, z10, r10⟩ := cat (x9) (dg c) 94 21 z9 d5 (by omega)
  obtain ⟨x11, e11, z11, r11⟩ := cat (x10) (⟨#[32, 60]⟩) 115 2 z10 (show (ByteArray.mk #[32, 60]).size ≤ 2 from Nat.le_refl _) (by omega)
  obtain ⟨x12, e12, z12, r12⟩ := cat (x11) (k) 117 1048576 z11 hk (by omega)
  obtain ⟨x13, e13, z13, r13⟩ := cat (x12) (⟨#[62, 32, 60]⟩) 1048693 3 z12 (show (ByteArray.mk #[62, 32, 60]).size ≤ 3 from Nat.le_refl _) (by omega)
  obtain ⟨x14, e14, z14, r14⟩ := cat (x13) (t) 1048696 1048576 z13 ht (by omega)
  obtain ⟨x15, e15, z15, r15⟩ := cat (x14) (⟨#[62]⟩) 2097272 1 z14 (show (ByteArray.mk #[62]).size ≤ 1 from Nat.le_refl _) (by omega)
  clear hb d0 d1 d3 d4 d5 z1 z2 z3 z4 z5 z6 z7 z8 z9 z10 z11 z12 z13 z14 z15 hk ht
  go_enter Tryd.func8, Tryd.ntmps8
  go_wp2_with (go_at_call 12; refine (in_any _ _ _ _).mono ?_; rintro e w' ⟨rfl, rfl⟩)
  go_region_held3 (fun w' => w'.cell? ⟨w.heap.size, 0, none⟩ = some (.int .i64 who) ∧ w'.cell? ⟨w.heap.size, 1, none⟩ = some (.int .i64 seq) ∧ w'.cell? ⟨w.heap.size, 3, none⟩ = some (.int .i64 a) ∧ w'.cell? ⟨w.heap.size, 4, none⟩ = some (.int .i64 b) ∧ w'.cell? ⟨w.heap.size, 5, none⟩ = some (.int .i64 c) ∧ w'.cell? ⟨w.heap.size, 6, none⟩ = some (.string k) ∧ w'.cell? ⟨w.heap.size, 7, none⟩ = some (.string t) ∧ w'.cell? ⟨w.heap.size + 1, j, none⟩ = some (.string (nm j)) ∧ w.heap.size + 1 < w'.heap.size)
    (first | (go_split_ands; refine ⟨?_, ?_, ?_, ?_, ?_, ?_, ?_, ?_, ?_⟩ <;> first | (rw [c1 _ _ (by first | omega | (simp; done) | (simp; omega))]; first | assumption | exact cell_names _ _ j hj | (simp; done)) | omega | (simp at s1; omega)) | (refine ⟨?_, ?_, ?_, ?_, ?_, ?_, ?_, ?_, ?_⟩ <;> first | exact cell_names _ _ j hj | go_keep))
    (first
      | (go_at_call_of 5 (Value.int .i64 who); refine (specD who B0.out _).mono ?_; rintro e w1 ⟨rfl, g1⟩; obtain ⟨c1, f1⟩ := bcell g1; have s1 := g1.size)
      | (go_at_call_of 5 (Value.int .i64 seq); refine (specD seq B1.out _).mono ?_; rintro e w1 ⟨rfl, g1⟩; obtain ⟨c1, f1⟩ := bcell g1; have s1 := g1.size)
      | (go_at_call_of 5 (Value.int .i64 a); refine (specD a B3.out _).mono ?_; rintro e w1 ⟨rfl, g1⟩; obtain ⟨c1, f1⟩ := bcell g1; have s1 := g1.size)
      | (go_at_call_of 5 (Value.int .i64 b); refine (specD b B4.out _).mono ?_; rintro e w1 ⟨rfl, g1⟩; obtain ⟨c1, f1⟩ := bcell g1; have s1 := g1.size)
      | (go_at_call_of 5 (Value.int .i64 c); refine (specD c B5.out _).mono ?_; rintro e w1 ⟨rfl, g1⟩; obtain ⟨c1, f1⟩ := bcell g1; have s1 := g1.size))
  all_goals
    go_wp2
    go_ret
    refine ⟨?_, ?_⟩
    · obtain rfl := e15.out; obtain rfl := e14.out; obtain rfl := e13.out; obtain rfl := e12.out; obtain rfl := e11.out; obtain rfl := e10.out; obtain rfl := e9.out; obtain rfl := e8.out; obtain rfl := e7.out; obtain rfl := e6.out; obtain rfl := e5.out; obtain rfl := e4.out; obtain rfl := e3.out; obtain rfl := e2.out; obtain rfl := e1.out; rfl
    · repeat (first | exact Below.refl _ _ | refine via0 (by assumption) ?_ | refine Below.drew ?_ | refine alloc0 ?_ _)
end Go.Proofs.YtpdbgppbmjpdmaaDoor.CmdText
