/-
  The program's lengthOf, endOfLength and rowOf.inUse at this seat.
-/
import Derived.Test.YtnmbbkagjpmhdaaCopies
import Derived.Deep.RegionHeld3
namespace Go.Proofs.Ytnmbbkagjpmhdaa.Items
open Go.ChangeShapes Go.WideShapes Go.ChangeAt Go.RowKit Go.Shelf Base
set_option linter.unusedVariables false

/-- In which length a number stands. -/
def dv (off len : Int) : Int := wrap64 (Int.tdiv off len)

theorem lengthOf_any (off len : Int) (h : 1 ≤ len) (w : World) :
    Calls Try.prog 75 #[.int .i64 off, .int .i64 len] w fun e w' => e = .returned (.int .i64 (dv off len)) ∧ w' = w := by
  have hz : ¬ len = 0 := by omega
  go_enter Try.func75, Try.ntmps75
  go_wp2
  go_ret
  exact ⟨rfl, rfl⟩

theorem endOfLength_any (off len : Int) (h : 1 ≤ len) (w : World) :
    Calls Try.prog 65 #[.int .i64 off, .int .i64 len] w fun e w' => e = .returned (.int .i64 (wrap64 (wrap64 (dv off len + 1) * len))) ∧ w' = w := by
  go_enter Try.func65, Try.ntmps65
  go_wp2_with (go_at_call 75; refine (lengthOf_any _ _ h _).mono ?_; rintro e w' ⟨rfl, rfl⟩)
  go_ret
  exact ⟨rfl, rfl⟩

theorem held6 {W : World} {B : Nat} {t t' : TypeId} {a b c p q r s u : Value} (h : Blk W B t #[a, b, c]) (h' : Blk W (B + 1) t' #[p, q, r, s, u]) :
    W.cell? ⟨B, 1, none⟩ = some b ∧ W.cell? ⟨B + 1, 0, none⟩ = some p ∧ W.cell? ⟨B + 1, 1, none⟩ = some q ∧ W.cell? ⟨B + 1, 2, none⟩ = some r ∧ W.cell? ⟨B + 1, 3, none⟩ = some s ∧ W.cell? ⟨B + 1, 4, none⟩ = some u := by
  obtain ⟨h0, h1, h2⟩ := h.row
  obtain ⟨s0, s1, s2, s3, s4⟩ := h'.item
  exact ⟨h1, s0, s1, s2, s3, s4⟩

set_option maxRecDepth 100000 in
set_option maxHeartbeats 600000 in
theorem inUse_any (start next length : Int) (h : 1 ≤ length) (A : Option Addr) (n cap : Nat) (x : It) (w : World) :
    Calls Try.prog 63 #[.agg #[.int .i64 start, .int .i64 next, .slice A n cap], .agg #[.int .i64 x.off, .string x.key, .string x.text, .int .i64 x.who, .int .i64 x.time], .int .i64 length] w
      fun e w' => e = .returned (.bool (dv x.off length == dv (IntKind.i64.wrap (next - 1)) length)) ∧ Below w.heap.size w w' := by
  have p0 := (Blk.new w 63 #[.int .i64 start, .int .i64 next, .slice A n cap]).alloc (.cells #[.int .i64 x.off, .string x.key, .string x.text, .int .i64 x.who, .int .i64 x.time] 34)
  have p1 := Blk.new (w.alloc (.cells #[.int .i64 start, .int .i64 next, .slice A n cap] 63)) 34 #[.int .i64 x.off, .string x.key, .string x.text, .int .i64 x.who, .int .i64 x.time]
  have B0 : Below w.heap.size w ((w.alloc (.cells #[.int .i64 start, .int .i64 next, .slice A n cap] 63)).alloc (.cells #[.int .i64 x.off, .string x.key, .string x.text, .int .i64 x.who, .int .i64 x.time] 34)) := alloc0 (alloc0 (Below.refl _ _) _) _
  rw [World.size_alloc] at p1
  have hm := number_of x
  go_enter Try.func63, Try.ntmps63
  go_wp2_with fail
  generalize (w.alloc (.cells #[.int .i64 start, .int .i64 next, .slice A n cap] 63)).alloc (.cells #[.int .i64 x.off, .string x.key, .string x.text, .int .i64 x.who, .int .i64 x.time] 34) = W0 at p0 p1 B0 ⊢
  obtain ⟨c0, c1, c2⟩ := p0.row
  obtain ⟨x0, x1, x2, x3, x4⟩ := p1.item
  have q0 := p0.lt
  have q1 := p1.lt
  have SD : Hid _ := held6 p0.drew p1.drew
  have SW : Hid _ := held6 p0 p1
  have SX : Hid _ := held6 (p0.alloc (.cells #[.int .i64 x.off, .string x.key, .string x.text, .int .i64 x.who, .int .i64 x.time] 34)).drew (p1.alloc (.cells #[.int .i64 x.off, .string x.key, .string x.text, .int .i64 x.who, .int .i64 x.time] 34)).drew
  clear p0 p1
  go_region_held3 (fun w' => w'.cell? ⟨w.heap.size, 1, none⟩ = some (.int .i64 next) ∧ w'.cell? ⟨w.heap.size + 1, 0, none⟩ = some (.int .i64 x.off) ∧ w'.cell? ⟨w.heap.size + 1, 1, none⟩ = some (.string x.key) ∧ w'.cell? ⟨w.heap.size + 1, 2, none⟩ = some (.string x.text) ∧ w'.cell? ⟨w.heap.size + 1, 3, none⟩ = some (.int .i64 x.who) ∧ w'.cell? ⟨w.heap.size + 1, 4, none⟩ = some (.int .i64 x.time))
    (first | with_reducible exact SD.out | with_reducible exact SX.out | with_reducible exact SW.out)
    (first
      | (go_at_call 92; refine (number_any x _).mono ?_; rintro e w' ⟨rfl, rfl⟩)
      | (go_at_call 75; refine (lengthOf_any _ _ h _).mono ?_; rintro e w' ⟨rfl, rfl⟩))
  all_goals
    clear SD SX SW
    go_wp2
    go_ret
    exact ⟨rfl, Below.drew (alloc0 B0 _)⟩
end Go.Proofs.Ytnmbbkagjpmhdaa.Items
