/-
  FnExactCmdText: at every command the program's CmdText answers as the specification's, and nothing that was there turns; the library's tables are as the program's text lays them (the card ties them). No other condition.
-/
import Derived.Test.YtpdbgppbmjpdmaaDoorCards
import Derived.Test.YtpdbgppbmjpdmaaDoorTie
import Derived.Test.YtpdbgppbmjpdmaaDoorCmd
import Derived.Test.YtpdbgppbmjpdmaaDoorTextImpl
import Derived.Deep.DeepHandedRow
namespace Go.Proofs.YtpdbgppbmjpdmaaDoor.CmdText
open Go.ChangeShapes Go.WideShapes Go.ChangeAt Go.RowKit Base Cmd
set_option linter.unusedVariables false

theorem own : ownKnob Tryd.prog.godebug = none := by kernel_rfl
theorem laidOut : laidOutB Tryd.prog = true := by kernel_rfl

def textOf (who seq op a b c : Int) (k t : ByteArray) : ByteArray := if who = -1 then ⟨#[110, 111, 98, 111, 100, 121]⟩ else shown who seq a b c k t (nmI op)

theorem spec_any (who seq op a b c : Int) (k t : ByteArray) (hk : k.size ≤ 1048576) (ht : t.size ≤ 1048576)
    (hb : ∀ x, x = who ∨ x = seq ∨ x = op ∨ x = a ∨ x = b ∨ x = c → -9223372036854775808 ≤ x ∧ x ≤ 9223372036854775807) (w : World) :
    Calls Tryd.prog 8 #[.agg #[.int .i64 who, .int .i64 seq, .int .i64 op, .int .i64 a, .int .i64 b, .int .i64 c, .string k, .string t]] w fun e w' => e = .returned (.string (textOf who seq op a b c k t)) ∧ Below w.heap.size w w' := by
  unfold textOf
  by_cases h : who = -1
  · subst h; rw [if_pos rfl]; exact spec_nobody seq op a b c k t w
  · rw [if_neg h]
    have hw : (who == -1) = false := by simpa using h
    cases hi : inB op 0 10 with
    | false =>
      have e : nmI op = ⟨#[110, 111, 110, 101]⟩ := by unfold nmI; rw [hi]; rfl
      rw [e]
      exact spec_out who seq op a b c k t hk ht hw hb hi w
    | true =>
      have h1 : 0 ≤ op ∧ op ≤ 10 := by simpa [inB] using hi
      have e : nmI op = nm op.toNat := by unfold nmI; rw [hi]; rfl
      rw [e]
      exact spec_in who seq op a b c k t hk ht hw hb op.toNat (by omega) (by omega) w

theorem impl_any (who seq op a b c : Int) (k t : ByteArray) (hk : k.size ≤ 1048576) (ht : t.size ≤ 1048576)
    (hb : ∀ x, x = who ∨ x = seq ∨ x = op ∨ x = a ∨ x = b ∨ x = c → -9223372036854775808 ≤ x ∧ x ≤ 9223372036854775807) (w : World) (hT : Digits.Tab w) :
    Calls Tryd.prog 10 #[.agg #[.int .i64 who, .int .i64 seq, .int .i64 op, .int .i64 a, .int .i64 b, .int .i64 c, .string k, .string t]] w fun e w' => e = .returned (.string (textOf who seq op a b c k t)) ∧ Below w.heap.size w w' := by
  unfold textOf
  by_cases h : who = -1
  · subst h; rw [if_pos rfl]; exact impl_nobody seq op a b c k t w
  · rw [if_neg h]
    exact impl_some who seq op a b c k t hk ht (by simpa using h) hb w hT

theorem lt_of_alloc {w : World} {o : Obj} {n : Nat} (h : (w.alloc o).heap.size ≤ n) : w.heap.size < n := by simp at h; omega
theorem szR_small {k t : Nat} (h : ¬ szR k t < 0) : k ≤ 1048576 ∧ t ≤ 1048576 := by
  unfold szR at h
  split at h
  · omega
  · split at h <;> omega

set_option maxHeartbeats 1000000 in
theorem law_any (who seq op a b c : Int) (k t : ByteArray) (hk : k.size ≤ 9223372036854775807) (ht : t.size ≤ 9223372036854775807)
    (hb : ∀ x, x = who ∨ x = seq ∨ x = op ∨ x = a ∨ x = b ∨ x = c → -9223372036854775808 ≤ x ∧ x ≤ 9223372036854775807) (w : World) (hT : Digits.Tab w) :
    Calls Tryd.prog 4 #[.agg #[.int .i64 who, .int .i64 seq, .int .i64 op, .int .i64 a, .int .i64 b, .int .i64 c, .string k, .string t]] w fun e w' => e = .returned (.bool true) ∧ Below w.heap.size w w' := by
  have TT : Hid (Digits.Tab w) := hT
  clear hT
  by_cases hz : szR k.size t.size < 0
  · clear hb
    go_enter Tryd.func4, Tryd.ntmps4
    go_wp2_with (go_at_call 7; refine (sz_any _ _ _ _ _ _ _ _ hk ht _).mono ?_; rintro e w1 ⟨rfl, g1⟩; obtain ⟨c1, f1⟩ := bcell g1; have s1 := g1.size)
    go_ret
    refine ⟨rfl, ?_⟩
    repeat (first | exact Below.refl _ _ | refine via0 (by assumption) ?_ | refine Below.drew ?_ | refine alloc0 ?_ _)
  · obtain ⟨hk', ht'⟩ := szR_small hz
    have HS : Hid (∀ w : World, Calls Tryd.prog 8 #[.agg #[.int .i64 who, .int .i64 seq, .int .i64 op, .int .i64 a, .int .i64 b, .int .i64 c, .string k, .string t]] w fun e w' => e = .returned (.string (textOf who seq op a b c k t)) ∧ Below w.heap.size w w') := spec_any who seq op a b c k t hk' ht' hb
    have HI : Hid (∀ w : World, Digits.Tab w → Calls Tryd.prog 10 #[.agg #[.int .i64 who, .int .i64 seq, .int .i64 op, .int .i64 a, .int .i64 b, .int .i64 c, .string k, .string t]] w fun e w' => e = .returned (.string (textOf who seq op a b c k t)) ∧ Below w.heap.size w w') := impl_any who seq op a b c k t hk' ht' hb
    generalize textOf who seq op a b c k t = x at HS HI
    clear hb hk' ht'
    go_enter Tryd.func4, Tryd.ntmps4
    go_wp2_with (first
      | (go_at_call 7; refine (sz_any _ _ _ _ _ _ _ _ hk ht _).mono ?_; rintro e w1 ⟨rfl, g1⟩; obtain ⟨c1, f1⟩ := bcell g1; have s1 := g1.size; have q1 : w.heap.size < w1.heap.size := lt_of_alloc s1; have T1 : Hid (Digits.Tab w1) := Digits.tab_below (tab_alloc TT.out _) g1)
      | (go_at_call 9; refine (to_any _ _ _ _ _ _ _ _ _).mono ?_; rintro e w1 ⟨rfl, g1⟩; obtain ⟨c1, f1⟩ := bcell g1; have s1 := g1.size; have q1 : w.heap.size < w1.heap.size := Nat.lt_of_lt_of_le q1 s1; have T1 : Hid (Digits.Tab w1) := Digits.tab_below T1.out g1)
      | (go_at_call 8; refine (HS.out _).mono ?_; rintro e w1 ⟨rfl, g1⟩; obtain ⟨c1, f1⟩ := bcell g1; have s1 := g1.size; have q1 : w.heap.size < w1.heap.size := Nat.lt_of_lt_of_le q1 s1; have T1 : Hid (Digits.Tab w1) := Digits.tab_below T1.out g1)
      | (go_at_call 10; refine (HI.out _ T1.out).mono ?_; rintro e w1 ⟨rfl, g1⟩; obtain ⟨c1, f1⟩ := bcell g1; have s1 := g1.size; have q1 : w.heap.size < w1.heap.size := Nat.lt_of_lt_of_le q1 s1; have T1 : Hid (Digits.Tab w1) := Digits.tab_below T1.out g1))
    all_goals
      go_ret
      refine ⟨rfl, ?_⟩
      repeat (first | exact Below.refl _ _ | refine via0 (by assumption) ?_ | refine Below.drew ?_ | refine alloc0 ?_ _)

theorem tab_laid {W : World} (hL : laidMetH Tryd.prog Rows.fnExactCmdTextRow.laid W) : Digits.Tab W :=
  Digits.tab_of (l := Rows.fnExactCmdTextRow.laid) hL (by
    have e : (Lib.tabData .u64 Lib.pow10Tab : DataW Unit) = Rows.laid_internal_strconv_uint64pow10 := by kernel_rfl
    rw [e]; simp [Rows.fnExactCmdTextRow])

theorem contract (H : Type) (enc : TypeId × Value → H) (W : World) (base : Nat) (args : Array Value) (ds gs : List (DataW H)) (before : List MemPlace)
    (hval : ∀ (j : Nat) t v, Tryd.f4.params[j]? = some t → args[j]? = some v → Value.okWide Tryd.prog W .any base t v)
    (hW : DataW.Whole enc Tryd.prog Tryd.f4.params.toList Rows.fnExactCmdTextSpec.vars false W args.toList ds gs before) (hL : laidMetH Tryd.prog Rows.fnExactCmdTextRow.laid W) :
    Calls Tryd.prog 4 args W fun e W' => ∃ v, e = .returned v ∧ Rows.fnExactCmdTextSpec.post enc Tryd.prog Tryd.f4 false true false false W args v W' := by
  have hW' := hW
  obtain ⟨p, q, hA0, hV, rfl, hfz, hnd⟩ := hW
  have hA : DataW.TrodAll enc Tryd.prog W 0 (fun _ => true) true Tryd.f4.params.toList args.toList ds p := hA0
  rw [Tryd.params4] at hA hval
  obtain ⟨v0, d0, rfl, rfl, h0⟩ := trodAll_one hA
  obtain ⟨rfl, rfl⟩ := trodVars_none hV
  obtain ⟨who, seq, op, a, b, c, k, t, rfl, hk, ht, hb⟩ := open_cmd (hval 0 25 v0 rfl rfl) h0
  refine (law_any who seq op a b c k t hk ht hb W (tab_laid hL)).mono fun e W' ⟨he, hbl⟩ => ?_
  subst he
  exact ⟨_, rfl, post_true laidOut (by kernel_rfl) (by kernel_rfl) Tryd.underlying4 rfl rfl hW' hbl⟩

/-- A world for the witness: the settled one, the tables holding what the program's text lays. -/
def litsOf : DataW Unit → Array Value
  | .agg l => (l.map fun | .lit (.int k z) => Value.int k z | _ => .bool false).toArray
  | _ => #[]
def setTab (w : World) (g : Nat) (d : DataW Unit) : World :=
  { w with heap := w.heap.modify g fun
      | .cells _ t frozen => .cells (litsOf d) t frozen
      | o => o }
def laidIn (P : Program) (os : Os) : World :=
  setTab (setTab (setTab (World.holding P os ⟨#[], #[], []⟩) 2 Rows.laid_math_bits_deBruijn32tab) 3 Rows.laid_math_bits_deBruijn64tab) 1 Rows.laid_internal_strconv_uint64pow10
theorem laid_met (os : Os) : laidMet Tryd.prog Rows.fnExactCmdTextRow.laid ((laidIn Tryd.prog os).forCall (fun _ _ => 0) ⟨#[], #[.agg #[.int .i64 (-1), .int .i64 0, .int .i64 0, .int .i64 0, .int .i64 0, .int .i64 0, .string ⟨#[]⟩, .string ⟨#[]⟩]], []⟩).memory :=
  laidMet_of_run' 8 (by kernel_rfl) (by kernel_rfl)
theorem reads (os : Os) {H : Type} (enc : TypeId × Value → H) : ∃ places, DataW.whole enc Tryd.prog ((laidIn Tryd.prog os).forCall (fun _ _ => 0) ⟨#[], #[.agg #[.int .i64 (-1), .int .i64 0, .int .i64 0, .int .i64 0, .int .i64 0, .int .i64 0, .string ⟨#[]⟩, .string ⟨#[]⟩]], []⟩).memory Tryd.f4.params.toList Rows.fnExactCmdTextSpec.vars false #[(.agg #[.int .i64 (-1), .int .i64 0, .int .i64 0, .int .i64 0, .int .i64 0, .int .i64 0, .string ⟨#[]⟩, .string ⟨#[]⟩] : Value)].toList 8 = some ([.agg [.lit (.int .i64 (-1)), .lit (.int .i64 0), .lit (.int .i64 0), .lit (.int .i64 0), .lit (.int .i64 0), .lit (.int .i64 0), .lit (.string []), .lit (.string [])]], [], places) :=
  ⟨[], by kernel_rfl⟩

set_option maxRecDepth 100000 in
theorem lifted (os : Os) (started : os.Started) (H : Type) (enc : TypeId × Value → H) (F : Stop.Interp) :
    ReturnsInHanded {} Tryd.checked os 4 .any ((OpenSpec.ofChange Rows.fnExactCmdTextSpec).preRow enc Tryd.prog Tryd.f4 Rows.fnExactCmdTextRow.domain false Rows.fnExactCmdTextRow.laid) (((OpenSpec.ofChange Rows.fnExactCmdTextSpec).at F).post enc Tryd.prog Tryd.f4 false true false false) := by
  obtain ⟨places, hx⟩ := reads os enc
  refine returnsInHanded_of_row (C := Tryd.checked) (s := OpenSpec.ofChange Rows.fnExactCmdTextSpec) own started (by kernel_rfl) Tryd.func4
    (witness_row_at (enc := enc) (C := Tryd.checked) false (laidIn Tryd.prog os) #[.agg #[.int .i64 (-1), .int .i64 0, .int .i64 0, .int .i64 0, .int .i64 0, .int .i64 0, .string ⟨#[]⟩, .string ⟨#[]⟩]] rfl (by kernel_rfl) (by kernel_rfl) (by kernel_rfl)
      (OpenSpec.preRow_of_cond 8 hx (by kernel_rfl) (fun k hk => by cases hk) (by kernel_rfl) (laid_met os))) ?_
  intro W base args ds gs before hval hW _ _ _ hL _ _
  exact contract H enc W base args ds gs before hval hW hL

theorem said : Rows.FnExactCmdTextSaid :=
  OpenClaim.holds_of_cond 4 Tryd.f4 rfl rfl rfl rfl rfl rfl rfl ⟨rfl, rfl, rfl, rfl, rfl⟩ rfl rfl rfl rfl rfl (by kernel_rfl) Tryd.func4 (by kernel_rfl)
    (of_decide_eq_true (by kernel_rfl)) (by unfold Func.isWrapper; first | (rw [if_pos (by decide +kernel)]; kernel_rfl) | (rw [if_neg (by decide +kernel)]; exact ⟨rfl, rfl⟩))
    (fun os started H enc _ F => by rw [OpenClaim.pre_eq_preRow]; exact lifted os started H enc F)

theorem plain (f : FuncId) (fn : Func) (hf : Tryd.pinned.checked.prog.funcNamed "loop.example/g00393/laws.FnExactCmdText" = some f) (hfn : Tryd.pinned.checked.prog.funcs[f]? = some fn) :
    false = Tryd.pinned.checked.prog.looks [] ∧ ∀ (j : Nat) t, fn.params[j]? = some t → Tryd.pinned.checked.prog.wantsStandIn t = false := by
  obtain rfl : f = 4 := Option.some.inj ((show Tryd.prog.funcNamed "loop.example/g00393/laws.FnExactCmdText" = some 4 by kernel_rfl).symm.trans hf) |>.symm
  obtain rfl : fn = Tryd.f4 := (Option.some.inj (Tryd.func4.symm.trans hfn)).symm
  refine ⟨by kernel_rfl, fun j t ht => ?_⟩
  rw [Tryd.params4] at ht
  obtain rfl : t = 25 := by simpa using Array.mem_of_getElem? ht
  exact (show Tryd.prog.wantsStandIn 25 = false by kernel_rfl)

theorem card : Rows.FnExactCmdTextCardSaid :=
  Claim7.holds_tied_plain_at .later [] _ _ _ _ said (fun _ h => by cases h) (by kernel_rfl) (fun _ h => by cases h) fnExactCmdText_row_tie rfl ⟨rfl, rfl⟩ (by kernel_rfl) rfl plain (by kernel_rfl)
end Go.Proofs.YtpdbgppbmjpdmaaDoor.CmdText
namespace Go.Proofs.YtpdbgppbmjpdmaaDoor
theorem cmdText_holds : Rows.FnExactCmdTextCardSaid := CmdText.card
end Go.Proofs.YtpdbgppbmjpdmaaDoor
