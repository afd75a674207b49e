/-
  What is tried: a function that returns, or panics with a value of some type: told by true or false, and nothing else turns but one new box. No condition.
-/
import Derived.Test.YtjjbbkmedpfenaaGreatSPutNum
import Derived.Lib.AppendStr
import Derived.WalkSmall
import Derived.Defers
import Derived.Recover
import Derived.Laws.Pointers
namespace Go.Proofs.YtjjbbkmedpfenaaGreat.Gen
open Go.ChangeShapes Go.WideShapes Go.ChangeAt Go.RowKit Go.Joins Go.Deep Base
set_option linter.unusedVariables false

theorem catch_panicking (p : Addr) (x : Value) (u : TypeId) (pv : Value) (older : List PanicEntry) (w : World) (hc : w.cell? p = some x) (hz : w.frozen? p = false) :
    CallsD Tryz.prog 84 #[.pointer (some p)] (.panicking ({ v := .iface u pv, recovered := false } :: older)) w fun e u' w' =>
      e = .returned (.tuple #[]) ∧ u' = .panicking ({ v := .iface u pv, recovered := true } :: older) ∧ w' = w.setCell p (.bool false) := by
  refine callsD_of_wpS Tryz.func84 rfl fun c₀ cs hu => ?_
  apply wpS_region
  simp [wpOpsS, go_sem, recoverD, hu, Tryz.ntmps84, hc, hz, bodyPostS, results, Tryz.results84]

theorem catch_idle (p : Addr) (x : Value) (w : World) (hc : w.cell? p = some x) (hz : w.frozen? p = false) :
    CallsD Tryz.prog 84 #[.pointer (some p)] .returning w fun e u' w' => e = .returned (.tuple #[]) ∧ u' = .returning ∧ w' = w.setCell p (.bool true) := by
  refine callsD_of_wpS Tryz.func84 rfl fun c₀ cs hu => ?_
  apply wpS_region
  simp [wpOpsS, go_sem, recoverD, hu, Tryz.ntmps84, hc, hz, bodyPostS, results, Tryz.results84]
  cases c₀
  simp_all

/-- Tried: what is done returns, or panics. -/
theorem tried_any (f : FuncId) (cap : Array Value) (w : World) (R S : World → Prop) (hcf : ∀ W : World, (callFunc f cap).run Tryz.prog W = .ok (.enter f cap) W)
    (h : Calls Tryz.prog f cap (w.alloc (.cells #[.bool false] 4)) fun e W => Blk W w.heap.size 4 #[.bool false] ∧ ((e = .returned (.tuple #[]) ∧ R W) ∨ (∃ t v, e = .panicked [{ v := .iface t v, recovered := false }] ∧ S W))) :
    Calls Tryz.prog 45 #[.func (.func f) #[] cap] w fun e W => ∃ W0, Only w.heap.size W0 W ∧ ((e = .returned (.bool true) ∧ R W0) ∨ (e = .returned (.bool false) ∧ S W0)) := by
  have hmf : ∀ (fn : Fn) (first cap : Array Value) (w : World), (Instr.makeFunc fn first cap).run Tryz.prog w = .ok (.func fn first cap) w := fun _ _ _ _ => rfl
  have HH := hidP h
  clear h
  go_enter_defers Tryz.func45, Tryz.ntmps45
  go_wp2_with fail
  refine HH.out.mono ?_
  rintro e W ⟨p, h⟩
  have c0 := p.row1
  have f0 := p.thaw 0
  have q0 := p.lt
  have c1 := (p.setAt 0 (.bool true)).row1
  have f1 := (p.setAt 0 (.bool true)).thaw 0
  rcases h with ⟨rfl, hR⟩ | ⟨t, v, rfl, hS⟩
  · go_wp2
    refine leaves_cons (f := 84) (args := #[.pointer (some ⟨w.heap.size, 0, none⟩)]) (by simp) (by simp [go_sem]) ?_
    refine (catch_idle ⟨w.heap.size, 0, none⟩ _ _ c1 f1).mono ?_
    rintro e u' w'' ⟨rfl, rfl, rfl⟩
    have c2 := ((p.setAt 0 (.bool true)).setAt 0 (.bool true)).row1
    refine ⟨.bool true, ?_, W, ((Only.refl _ _).set 0 _).set 0 _, .inl ⟨rfl, hR⟩⟩
    simp only [results, Tryz.results45]
    simp [go_sem, c2]
  · refine leaves_cons (f := 84) (args := #[.pointer (some ⟨w.heap.size, 0, none⟩)]) (by simp) (by simp [go_sem]) ?_
    refine (catch_panicking ⟨w.heap.size, 0, none⟩ _ t v [] _ c0 f0).mono ?_
    rintro e u' w'' ⟨rfl, rfl, rfl⟩
    have c2 := (p.setAt 0 (.bool false)).row1
    refine ⟨.bool false, ?_, W, (Only.refl _ _).set 0 _, .inr ⟨rfl, hS⟩⟩
    simp only [results, Tryz.results45]
    simp [go_sem, c2]
end Go.Proofs.YtjjbbkmedpfenaaGreat.Gen
