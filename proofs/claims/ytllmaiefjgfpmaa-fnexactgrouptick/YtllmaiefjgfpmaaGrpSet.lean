/-
  The program's small functions of groups at this seat: copyOf, oneMore, isTooOld. No condition but that lists have at most 1048576 numbers.
-/
import Derived.Test.YtllmaiefjgfpmaaGroups
namespace Go.Proofs.Ytllmaiefjgfpmaa.Gen
open Go.ChangeShapes Go.WideShapes Go.ChangeAt Go.RowKit Go.Joins Go.Deep Base
set_option linter.unusedVariables false
set_option linter.unusedSimpArgs false

set_option maxRecDepth 100000 in
theorem copyOf_any (A : Option Addr) (cap : Nat) (l : List Int) (hl : l.length ≤ 1048576) (w : World) (hA : At w A l) :
    Calls Try.prog 55 #[.slice A l.length cap] w fun e w' => ∃ v, e = .returned v ∧ w'.ownsRow w.heap.size 3 1 v l.length (flat l) ∧ Below w.heap.size w w' := by
  obtain ⟨v, w1, hr, hown, hgrow, hat⟩ := append_els (P := Try.prog) Try.underlying22 infoInt rfl (by decide) (by decide) w.heap.size (.slice none 0 0) ([] : List Int) l A cap w (Nat.le_refl _) (World.ownsRow_nil _ _ _ _) hA (by simp; omega)
  simp only [List.length_nil, Nat.zero_add, List.nil_append] at hown
  have HO := hidP hown
  have HG : Hid (Below w.heap.size w w1) := (Below.refl _ w).grown hgrow (Nat.le_refl _) (fun k e => by cases e)
  clear hown hgrow hat hA
  go_enter Try.func55, Try.ntmps55
  go_wp2_with (at_builtin; refine wpList_append_is rfl _ _ _ rfl _ _ _ rfl rfl hr ?_)
  go_ret
  exact ⟨v, rfl, HO.out, HG.out⟩

/-- One more, up to 100000. -/
def upF (gen : Int) : Int := if gen ≥ 100000 then gen else gen + 1
theorem oneMore_any (gen : Int) (hg : I64 gen) (w : World) : Calls Try.prog 59 #[.int .i64 gen] w fun e w' => e = .returned (.int .i64 (upF gen)) ∧ w' = w := by
  obtain ⟨h0, h1⟩ := hg
  by_cases h : gen ≥ 100000
  · have e : Hid (upF gen = gen) := by show _ = _; simp [upF, h]
    go_enter Try.func59, Try.ntmps59
    go_wp2
    go_ret
    exact ⟨by rw [e.out]; rfl, rfl⟩
  · have e : Hid (upF gen = gen + 1) := by show _ = _; simp [upF, h]
    have hb : gen + 1 ≤ 100000 := by omega
    go_enter Try.func59, Try.ntmps59
    go_wp2
    go_ret
    exact ⟨by rw [e.out]; rfl, rfl⟩
theorem l5Up_any (gen : Int) (hg : I64 gen) (w : World) : Calls Try.prog 30 #[.int .i64 gen] w fun e w' => e = .returned (.int .i64 (upF gen)) ∧ w' = w := by
  obtain ⟨h0, h1⟩ := hg
  by_cases h : gen ≥ 100000
  · have e : Hid (upF gen = gen) := by show _ = _; simp [upF, h]
    go_enter Try.func30, Try.ntmps30
    go_wp2
    go_ret
    exact ⟨by rw [e.out]; rfl, rfl⟩
  · have e : Hid (upF gen = gen + 1) := by show _ = _; simp [upF, h]
    have hb : gen + 1 ≤ 100000 := by omega
    go_enter Try.func30, Try.ntmps30
    go_wp2
    go_ret
    exact ⟨by rw [e.out]; rfl, rfl⟩

/-- Whether a Beat is more than 50 below time. -/
def oldF (beat time : Int) : Bool := decide (beat < time ∧ 50 < time - beat)
theorem uwrap (n : Int) : IntKind.u64.wrap n = n % 18446744073709551616 := by simp [IntKind.wrap, IntKind.bits, IntKind.signed]
set_option maxRecDepth 100000 in
theorem tooOld_any (beat time : Int) (hb : I64 beat) (ht : I64 time) (w : World) : Calls Try.prog 35 #[.int .i64 beat, .int .i64 time] w fun e w' => e = .returned (.bool (oldF beat time)) ∧ w' = w := by
  obtain ⟨b0, b1⟩ := hb
  obtain ⟨t0, t1⟩ := ht
  by_cases h1 : beat < time
  · have hX : Hid (oldF beat time = decide (50 < IntKind.u64.wrap (IntKind.u64.wrap time - IntKind.u64.wrap beat))) := by
      show _ = _
      have : IntKind.u64.wrap (IntKind.u64.wrap time - IntKind.u64.wrap beat) = time - beat := by rw [uwrap, uwrap, uwrap]; omega
      rw [this]
      simp [oldF, h1]
    go_enter Try.func35, Try.ntmps35
    go_wp2
    go_ret
    exact ⟨by rw [hX.out]; rfl, rfl⟩
  · have e : Hid (oldF beat time = false) := by show _ = _; simp [oldF, h1]
    go_enter Try.func35, Try.ntmps35
    go_wp2
    go_ret
    exact ⟨by rw [e.out]; rfl, rfl⟩

/-- A member: its client, its Beat, and whether it has one. -/
structure Mb where
  who : Int
  beat : Int
  has : Bool
instance : Inhabited Mb := ⟨⟨0, 0, false⟩⟩
instance : Cel Mb where
  k := 3
  cs x := [.int .i64 x.who, .int .i64 x.beat, .bool x.has]
  len _ := rfl
  one x u hu := by simp at hu; rcases hu with rfl | rfl | rfl <;> rfl
theorem In.getMb {w : World} {b o : Nat} {l : List Mb} (h : In w b o l) (i : Nat) (hi : i < l.length) :
    w.cell? ⟨b, o + i * 3, none⟩ = some (.int .i64 l[i].who) ∧ w.cell? ⟨b, o + i * 3 + 1, none⟩ = some (.int .i64 l[i].beat) ∧ w.cell? ⟨b, o + i * 3 + 2, none⟩ = some (.bool l[i].has) :=
  ⟨h.cell i hi (f := 0) rfl, h.cell i hi (f := 1) rfl, h.cell i hi (f := 2) rfl⟩
theorem infoMb : (Try.prog.info? 59).map (fun i => (i.zero, i.size, i.bytes)) = some (some (.agg #[.int .i64 0, .int .i64 0, .bool false]), 3, 24) := by kernel_rfl

/-- Who goes by a tick. -/
def goesF (time : Int) (x : Mb) : Bool := x.has && oldF x.beat time
set_option maxRecDepth 100000 in
theorem goes_any (x : Mb) (time : Int) (hx : I64 x.beat) (ht : I64 time) (Bt : Nat) (w : World) (hc : w.cell? ⟨Bt, 0, none⟩ = some (.int .i64 time)) (hlt : Bt < w.heap.size) :
    Calls Try.prog 34 #[.agg #[.int .i64 x.who, .int .i64 x.beat, .bool x.has], .pointer (some ⟨Bt, 0, none⟩)] w fun e w' => e = .returned (.bool (goesF time x)) ∧ Below w.heap.size w w' := by
  cases hh : x.has
  · have e : Hid (goesF time x = false) := by show _ = _; simp [goesF, hh]
    go_enter Try.func34, Try.ntmps34
    go_wp2
    go_ret
    exact ⟨by rw [e.out]; rfl, by repeat (first | exact Below.refl _ _ | assumption | refine via0 (by assumption) ?_ | refine Below.drew ?_ | refine alloc0 ?_ _)⟩
  · have e : Hid (goesF time x = oldF x.beat time) := by show _ = _; simp [goesF, hh]
    go_enter Try.func34, Try.ntmps34
    go_wp2_with fail
    refine (tooOld_any x.beat time hx ht _).mono ?_
    rintro e w1 ⟨rfl, rfl⟩
    go_wp2
    go_ret
    exact ⟨by rw [e.out]; rfl, by repeat (first | exact Below.refl _ _ | assumption | refine via0 (by assumption) ?_ | refine Below.drew ?_ | refine alloc0 ?_ _)⟩
end Go.Proofs.Ytllmaiefjgfpmaa.Gen
