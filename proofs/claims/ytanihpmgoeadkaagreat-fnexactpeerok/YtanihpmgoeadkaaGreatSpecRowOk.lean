/-
  spec.RowOk at this seat: which rows are right. No condition but the length that every text has.
-/
import Derived.Test.YtanihpmgoeadkaaGreatAns
import Derived.Test.YtanihpmgoeadkaaGreatTexts
import Derived.Deep.RegionHeld3
namespace Go.Proofs.YtanihpmgoeadkaaGreat.Items
open Go.ChangeShapes Go.WideShapes Go.ChangeAt Go.RowKit Base
set_option linter.unusedVariables false
def partB (k t : ByteArray) (who time : Int) : Bool := textB k && textB t && inB who 0 3 && inB time 0 100000
def itemB (x : It) : Bool := partB x.key x.text x.who x.time
theorem four (p q r s : Bool) : p = false ∨ (p = true /\ q = false) ∨ (p = true /\ q = true /\ r = false) ∨ (p = true /\ q = true /\ r = true /\ s = false) ∨ (p = true /\ q = true /\ r = true /\ s = true) := by
  cases p<;>cases q<;>cases r<;>cases s<;>simp
set_option maxHeartbeats 1000000 in
theorem specItem_any (off who time : Int) (k t : ByteArray) (hk : k.size <= 9223372036854775807) (ht : t.size <= 9223372036854775807) (w : World) :
    Calls Tryz.prog 134 #[.agg #[.int .i64 off, .string k, .string t, .int .i64 who, .int .i64 time]] w fun e w' => e = .returned (.bool (partB k t who time)) /\ Below w.heap.size w w' := by
  rcases four (textB k) (textB t) (inB who 0 3) (inB time 0 100000) with h1 | ⟨h1, h2⟩ | ⟨h1, h2, h3⟩ | ⟨h1, h2, h3, h4⟩ | ⟨h1, h2, h3, h4⟩
  all_goals
    go_enter Tryz.func134, Tryz.ntmps134
    have q1 : w.heap.size < w.heap.size + 1 := Nat.lt_succ_self _
    go_wp2_with (first
      | (go_at_call 25; refine (in_any _ _ _ _).mono ?_; rintro e w' ⟨rfl, rfl⟩)
      | (go_at_call_of 135 (Value.string k); refine (specText_any k hk _).mono ?_; rintro e w1 ⟨rfl, g1⟩; obtain ⟨c1, f1⟩ := bcell g1; have s1 := g1.size; try simp at s1; have q1 : w.heap.size < w1.heap.size := by omega)
      | (go_at_call_of 135 (Value.string t); refine (specText_any t ht _).mono ?_; rintro e w1 ⟨rfl, g1⟩; obtain ⟨c1, f1⟩ := bcell g1; have s1 := g1.size; try simp at s1; have q1 : w.heap.size < w1.heap.size := by omega))
    go_ret
    refine ⟨by simp [partB, *], ?_⟩
    repeat (first | exact Below.refl _ _ | refine via0 (by assumption) ?_ | refine Below.drew ?_ | refine alloc0 ?_ _)
def chain (start nb : Int) : Option Int -> List It -> Bool
  | _, [] => true
  | p, x :: l => itemB x && inB x.off start nb && (match p with | none => true | some o => decide (o < x.off)) && chain start nb (some x.off) l
def prevO (l : List It) (n : Nat) : Option Int := match n with
  | 0 => none
  | p + 1 => (l[p]?).map (·.off)
def chainFrom (start nb : Int) (l : List It) (n : Nat) : Bool := chain start nb (prevO l n) (l.drop n)
theorem chainFrom_end {start nb : Int} {l : List It} {n : Nat} (h : l.length <= n) : chainFrom start nb l n = true := by
  unfold chainFrom; rw [List.drop_eq_nil_of_le h]; rfl
def ordB (l : List It) (n : Nat) (x : Int) : Bool := match prevO l n with
  | none => true
  | some o => decide (o < x)
theorem chainFrom_step {start nb : Int} {l : List It} {n : Nat} (h : n < l.length) :
    chainFrom start nb l n = (itemB l[n] && inB l[n].off start nb && ordB l n l[n].off && chainFrom start nb l (n + 1)) := by
  have e2 : prevO l (n + 1) = some l[n].off := by simp [prevO, List.getElem?_eq_getElem h]
  unfold chainFrom ordB
  rw [e2, List.drop_eq_getElem_cons h]
  cases prevO l n<;>rfl
theorem ordB_zero (l : List It) (x : Int) : ordB l 0 x = true := rfl
theorem ordB_succ {l : List It} {p : Nat} (h : p < l.length) (x : Int) : ordB l (p + 1) x = decide (l[p].off < x) := by
  simp [ordB, prevO, List.getElem?_eq_getElem h]
def rowB (start next : Int) (l : List It) : Bool := chainFrom start (next - 1) l 0 && inB start 0 next && decide (next <= 100000) && decide (l.length <= 80)
theorem specItem_is (v : Bool) (off who time : Int) (k t : ByteArray) (hk : k.size <= 9223372036854775807) (ht : t.size <= 9223372036854775807) (h : Hid (partB k t who time = v)) (w : World) :
    Calls Tryz.prog 134 #[.agg #[.int .i64 off, .string k, .string t, .int .i64 who, .int .i64 time]] w fun e w' => e = .returned (.bool v) /\ Below w.heap.size w w' := by
  have := specItem_any off who time k t hk ht w
  rw [h.out] at this
  exact this
theorem in_is (v : Bool) (x lo hi : Int) (h : Hid (inB x lo hi = v)) (w : World) :
    Calls Tryz.prog 25 #[.int .i64 x, .int .i64 lo, .int .i64 hi] w fun e w' => e = .returned (.bool v) /\ w' = w := by
  have := in_any x lo hi w
  rw [h.out] at this
  exact this
end Go.Proofs.YtanihpmgoeadkaaGreat.Items
