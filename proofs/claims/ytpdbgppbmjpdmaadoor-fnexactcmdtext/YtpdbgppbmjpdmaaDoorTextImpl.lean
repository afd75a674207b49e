/-
  impl.CmdText at this seat: the same text as the specification's, where the library's table is laid. No condition but the lengths of the texts.
-/
import Derived.Test.YtpdbgppbmjpdmaaDoorTextIn
import Derived.Test.YtpdbgppbmjpdmaaDoorShelf
import Derived.Deep.RegionHeld3
namespace Go.Proofs.YtpdbgppbmjpdmaaDoor.CmdText
open Go.ChangeShapes Go.WideShapes Go.ChangeAt Go.RowKit Base
set_option linter.unusedVariables false

theorem brackets_as (s y : ByteArray) (hs : s.size ≤ 1048576) (hy : Hid (y = ⟨#[60]⟩ ++ s ++ ⟨#[62]⟩)) (w : World) :
    Calls Tryd.prog 16 #[.string s] w fun e w' => e = .returned (.string y) ∧ Below w.heap.size w w' := by
  obtain rfl := hy.out
  exact brackets_any s hs w

/-- The seven parts with a blank between are what is shown. -/
theorem join_shown (who seq a b c : Int) (k t n : ByteArray) :
    Lib.join ([dg who ++ ⟨#[46]⟩ ++ dg seq, n, dg a, dg b, dg c, ⟨#[60]⟩ ++ k ++ ⟨#[62]⟩, ⟨#[60]⟩ ++ t ++ ⟨#[62]⟩].map (·.data.toList)) [32] = (shown who seq a b c k t n).data.toList := by
  simp [Lib.join_cons, Lib.joinTail, shown, ByteArray.data_append]

theorem shown_size (who seq a b c : Int) (k t n : ByteArray) (h0 : (dg who).size ≤ 21) (h1 : (dg seq).size ≤ 21) (h3 : (dg a).size ≤ 21) (h4 : (dg b).size ≤ 21) (h5 : (dg c).size ≤ 21)
    (hk : k.size ≤ 1048576) (ht : t.size ≤ 1048576) (hn : n.size ≤ 5) : (shown who seq a b c k t n).size ≤ 8388608 := by
  have e1 : ∀ x : UInt8, (ByteArray.mk #[x]).size = 1 := fun _ => rfl
  have e2 : (ByteArray.mk #[32, 60]).size = 2 := rfl
  have e3 : (ByteArray.mk #[62, 32, 60]).size = 3 := rfl
  simp only [shown, ByteArray.size_append, e1, e2, e3]
  omega

theorem join_as (bk : Nat) (s0 s1 s2 s3 s4 s5 s6 z : ByteArray) (hz : Hid (Lib.join ([s0, s1, s2, s3, s4, s5, s6].map (·.data.toList)) [32] = z.data.toList)) (hl : z.size ≤ 8388608) (w : World)
    (h0 : w.cell? ⟨bk, 0, none⟩ = some (.string s0)) (h1 : w.cell? ⟨bk, 1, none⟩ = some (.string s1)) (h2 : w.cell? ⟨bk, 2, none⟩ = some (.string s2)) (h3 : w.cell? ⟨bk, 3, none⟩ = some (.string s3))
    (h4 : w.cell? ⟨bk, 4, none⟩ = some (.string s4)) (h5 : w.cell? ⟨bk, 5, none⟩ = some (.string s5)) (h6 : w.cell? ⟨bk, 6, none⟩ = some (.string s6)) (hbk : bk < w.heap.size) :
    Calls Tryd.prog 13 #[.slice (some ⟨bk, 0, none⟩) 7 7, .string ⟨#[32]⟩] w fun e w' => e = .returned (.string z) ∧ Below w.heap.size w w' := by
  have hz' := hz.out
  have k := Tryd.strings_Join bk 0 7 [s0, s1, s2, s3, s4, s5, s6] ⟨#[32]⟩ w (fun j x hx => by
    match j, hx with
    | 0, hx => obtain rfl := Option.some.inj hx; exact h0
    | 1, hx => obtain rfl := Option.some.inj hx; exact h1
    | 2, hx => obtain rfl := Option.some.inj hx; exact h2
    | 3, hx => obtain rfl := Option.some.inj hx; exact h3
    | 4, hx => obtain rfl := Option.some.inj hx; exact h4
    | 5, hx => obtain rfl := Option.some.inj hx; exact h5
    | 6, hx => obtain rfl := Option.some.inj hx; exact h6
    | j + 7, hx => simp at hx) hbk (show (7 : Nat) ≤ 140737488355328 by decide) (Nat.le_refl 7) (by
      have e : (⟨#[32]⟩ : ByteArray).data.toList = [32] := rfl
      rw [e, hz']
      have : z.data.toList.length = z.size := Array.length_toList
      omega)
  have e : (⟨#[32]⟩ : ByteArray).data.toList = [32] := rfl
  rw [e, hz'] at k
  exact k

theorem new_cell (w : World) (cs : Array Value) (u : TypeId) (i : Nat) (v : Value) (h : cs[i]? = some v) : (w.alloc (.cells cs u)).cell? ⟨w.heap.size, i, none⟩ = some v := by
  simp [h]
theorem join_new (s0 s1 s2 s3 s4 s5 s6 z : ByteArray) (hz : Hid (Lib.join ([s0, s1, s2, s3, s4, s5, s6].map (·.data.toList)) [32] = z.data.toList)) (hl : z.size ≤ 8388608) (w : World) :
    Calls Tryd.prog 13 #[.slice (some ⟨w.heap.size, 0, none⟩) 7 7, .string ⟨#[32]⟩] (w.alloc (.cells #[.string s0, .string s1, .string s2, .string s3, .string s4, .string s5, .string s6] 9))
      fun e w' => e = .returned (.string z) ∧ Below (w.alloc (.cells #[.string s0, .string s1, .string s2, .string s3, .string s4, .string s5, .string s6] 9)).heap.size (w.alloc (.cells #[.string s0, .string s1, .string s2, .string s3, .string s4, .string s5, .string s6] 9)) w' :=
  join_as _ s0 s1 s2 s3 s4 s5 s6 z hz hl _ (new_cell _ _ _ 0 _ rfl) (new_cell _ _ _ 1 _ rfl) (new_cell _ _ _ 2 _ rfl) (new_cell _ _ _ 3 _ rfl) (new_cell _ _ _ 4 _ rfl) (new_cell _ _ _ 5 _ rfl) (new_cell _ _ _ 6 _ rfl) (by simp)

theorem tab_alloc {w : World} (h : Digits.Tab w) (o : Obj) : Digits.Tab (w.alloc o) := Digits.tab_below h ((Below.refl _ _).alloc (Nat.le_refl _) o)
theorem cell_alloc {w : World} {o : Obj} {b i : Nat} {v : Value} (h : w.cell? ⟨b, i, none⟩ = some v) (hb : b < w.heap.size) : (w.alloc o).cell? ⟨b, i, none⟩ = some v :=
  (((Below.refl w.heap.size w).alloc (Nat.le_refl _) o).cell (p := ⟨b, i, none⟩) hb).trans h
theorem tab_drew {w : World} (h : Digits.Tab w) : Digits.Tab w.drew := Digits.tab_below h (Below.refl _ _).drew

theorem impl_nobody (seq op a b c : Int) (k t : ByteArray) (w : World) :
    Calls Tryd.prog 10 #[.agg #[.int .i64 (-1), .int .i64 seq, .int .i64 op, .int .i64 a, .int .i64 b, .int .i64 c, .string k, .string t]] w fun e w' => e = .returned (.string ⟨#[110, 111, 98, 111, 100, 121]⟩) ∧ Below w.heap.size w w' := by
  go_enter Tryd.func10, Tryd.ntmps10
  go_wp2
  go_ret
  exact ⟨rfl, by repeat (first | exact Below.refl _ _ | refine via0 (by assumption) ?_ | refine Below.drew ?_ | refine alloc0 ?_ _)⟩

set_option maxRecDepth 100000 in
set_option maxHeartbeats 3200000 in
theorem impl_some (who seq op a b c : Int) (k t : ByteArray) (hk : k.size ≤ 1048576) (ht : t.size ≤ 1048576) (hw : (who == -1) = false)
    (hb : ∀ x, x = who ∨ x = seq ∨ x = op ∨ x = a ∨ x = b ∨ x = c → -9223372036854775808 ≤ x ∧ x ≤ 9223372036854775807) (w : World) (hT : Digits.Tab w) :
    Calls Tryd.prog 10 #[.agg #[.int .i64 who, .int .i64 seq, .int .i64 op, .int .i64 a, .int .i64 b, .int .i64 c, .string k, .string t]] w fun e w' => e = .returned (.string (shown who seq a b c k t (nmI op))) ∧ Below w.heap.size w w' := by
  have d0 := dg_size who (hb who (by simp))
  have d1 := dg_size seq (hb seq (by simp))
  have d3 := dg_size a (hb a (by simp))
  have d4 := dg_size b (hb b (by simp))
  have d5 := dg_size c (hb c (by simp))
  have B0 : Hid (-9223372036854775808 ≤ who ∧ who ≤ 9223372036854775807) := hb who (by simp)
  have B1 : Hid (-9223372036854775808 ≤ seq ∧ seq ≤ 9223372036854775807) := hb seq (by simp)
  have B3 : Hid (-9223372036854775808 ≤ a ∧ a ≤ 9223372036854775807) := hb a (by simp)
  have B4 : Hid (-9223372036854775808 ≤ b ∧ b ≤ 9223372036854775807) := hb b (by simp)
  have B5 : Hid (-9223372036854775808 ≤ c ∧ c ≤ 9223372036854775807) := hb c (by simp)
  have hjs := join_shown who seq a b c k t (nmI op)
  have hzs := shown_size who seq a b c k t (nmI op) d0 d1 d3 d4 d5 hk ht (nmI_size op)
  generalize shown who seq a b c k t (nmI op) = z at hjs hzs ⊢
  obtain ⟨x1, e1, z1, r1⟩ := cat (dg who) (⟨#[46]⟩) 21 1 d0 (Nat.le_refl _) (by omega)
  obtain ⟨x2, e2, z2, r2⟩ := cat x1 (dg seq) 22 21 z1 d1 (by omega)
  rw [← e1.out, ← e2.out] at hjs
  obtain ⟨y1, hy1⟩ : ∃ y : ByteArray, Hid (y = ⟨#[60]⟩ ++ k ++ ⟨#[62]⟩) := ⟨_, rfl⟩
  obtain ⟨y2, hy2⟩ : ∃ y : ByteArray, Hid (y = ⟨#[60]⟩ ++ t ++ ⟨#[62]⟩) := ⟨_, rfl⟩
  rw [← hy1.out, ← hy2.out] at hjs
  have J : Hid (Lib.join ([x2, nmI op, dg a, dg b, dg c, y1, y2].map (·.data.toList)) [32] = z.data.toList) := hjs
  have Z : Hid (z.size ≤ 8388608) := hzs
  have HK : Hid (k.size ≤ 1048576) := hk
  have HTT : Hid (t.size ≤ 1048576) := ht
  have TT : Hid (Digits.Tab w) := hT
  clear hjs hzs hb d0 d1 d3 d4 d5 z1 z2 hk ht hT
  go_enter Tryd.func10, Tryd.ntmps10
  go_wp2
  go_region_held3 (fun w' => w'.cell? ⟨w.heap.size, 0, none⟩ = some (.int .i64 who) ∧ w'.cell? ⟨w.heap.size, 1, none⟩ = some (.int .i64 seq) ∧ w'.cell? ⟨w.heap.size, 2, none⟩ = some (.int .i64 op) ∧ w'.cell? ⟨w.heap.size, 3, none⟩ = some (.int .i64 a) ∧ w'.cell? ⟨w.heap.size, 4, none⟩ = some (.int .i64 b) ∧ w'.cell? ⟨w.heap.size, 5, none⟩ = some (.int .i64 c) ∧ w'.cell? ⟨w.heap.size, 6, none⟩ = some (.string k) ∧ w'.cell? ⟨w.heap.size, 7, none⟩ = some (.string t) ∧ w.heap.size < w'.heap.size ∧ Digits.Tab w')
    (first | (go_split_ands; refine ⟨?_, ?_, ?_, ?_, ?_, ?_, ?_, ?_, ?_, ?_⟩ <;> first | (rw [c1 _ _ (by first | omega | (simp; done) | (simp; omega))]; first | assumption | (simp; done)) | exact Digits.tab_below (by assumption) g1 | omega | (simp at s1; omega)) | (go_split_ands; refine ⟨?_, ?_, ?_, ?_, ?_, ?_, ?_, ?_, ?_, ?_⟩ <;> first | exact tab_drew (tab_alloc TT.out _) | exact tab_alloc (by assumption) _ | exact cell_alloc (by assumption) (by omega) | (simp; omega) | go_keep))
    (first
      | (go_at_call_of 6 (Value.int .i64 who); refine (implD who B0.out _ ?_).mono ?_; (go_split_ands; assumption); rintro e w1 ⟨rfl, g1⟩; obtain ⟨c1, f1⟩ := bcell g1; have s1 := g1.size)
      | (go_at_call_of 6 (Value.int .i64 seq); refine (implD seq B1.out _ ?_).mono ?_; (go_split_ands; assumption); rintro e w1 ⟨rfl, g1⟩; obtain ⟨c1, f1⟩ := bcell g1; have s1 := g1.size)
      | (go_at_call_of 6 (Value.int .i64 a); refine (implD a B3.out _ ?_).mono ?_; (go_split_ands; assumption); rintro e w1 ⟨rfl, g1⟩; obtain ⟨c1, f1⟩ := bcell g1; have s1 := g1.size)
      | (go_at_call_of 6 (Value.int .i64 b); refine (implD b B4.out _ ?_).mono ?_; (go_split_ands; assumption); rintro e w1 ⟨rfl, g1⟩; obtain ⟨c1, f1⟩ := bcell g1; have s1 := g1.size)
      | (go_at_call_of 6 (Value.int .i64 c); refine (implD c B5.out _ ?_).mono ?_; (go_split_ands; assumption); rintro e w1 ⟨rfl, g1⟩; obtain ⟨c1, f1⟩ := bcell g1; have s1 := g1.size)
      | (go_at_call 14; refine (names_any _).mono ?_; rintro e w1 ⟨rfl, g1⟩; obtain ⟨c1, f1⟩ := bcell g1; have s1 := g1.size)
      | (go_at_call 15; refine (of_any _ _).mono ?_; rintro e w1 ⟨rfl, g1⟩; obtain ⟨c1, f1⟩ := bcell g1; have s1 := g1.size)
      | (go_at_call_of 16 (Value.string k); refine (brackets_as k y1 HK.out hy1 _).mono ?_; rintro e w1 ⟨rfl, g1⟩; obtain ⟨c1, f1⟩ := bcell g1; have s1 := g1.size)
      | (go_at_call_of 16 (Value.string t); refine (brackets_as t y2 HTT.out hy2 _).mono ?_; rintro e w1 ⟨rfl, g1⟩; obtain ⟨c1, f1⟩ := bcell g1; have s1 := g1.size)
      | (go_at_call 13; refine (join_new x2 (nmI op) (dg a) (dg b) (dg c) y1 y2 z J Z.out _).mono ?_; rintro e w1 ⟨rfl, g1⟩; obtain ⟨c1, f1⟩ := bcell g1; have s1 := g1.size))
  all_goals
    go_wp2
    go_ret
    refine ⟨rfl, ?_⟩
    repeat (first | exact Below.refl _ _ | refine via0 (by assumption) ?_ | refine Below.drew ?_ | refine alloc0 ?_ _)
end Go.Proofs.YtpdbgppbmjpdmaaDoor.CmdText
