/-
  What is asked of a keeper hangs on its content alone, not on where it lies. No condition.
-/
import Derived.Test.YtengolneibbdfaaGreatKeepV
import Derived.Test.YtengolneibbdfaaGreatAnsList
import Derived.Test.YtengolneibbdfaaGreatImplRight
import Derived.Deep.RegionHeld3
import Derived.Test.YtengolneibbdfaaGreatAns
import Derived.Test.YtengolneibbdfaaGreatGSs
namespace Go.Proofs.YtengolneibbdfaaGreat.Gen
open Go.ChangeShapes Go.WideShapes Go.ChangeAt Go.RowKit Go.Joins Go.Deep Base
set_option linter.unusedVariables false
theorem count_p {α β : Type} (p : α -> β) (c : β -> Nat) (l : List α) : count (fun x => c (p x)) l = count c (l.map p) := by simp [count, List.map_map, Function.comp_def]
theorem mem_p {α β : Type} {p : α -> β} {Q : β -> Prop} {l m : List α} (h : m.map p = l.map p) (hl : ∀ x ∈ l, Q (p x)) : ∀ x ∈ m, Q (p x) := fun x hx => by
  have : p x ∈ l.map p := h ▸ List.mem_map_of_mem hx
  obtain ⟨y, hy, e⟩ := List.mem_map.1 this
  rw [← e]; exact hl y hy
theorem fit_p {x y : KC} (h : y.p = x.p) (f : KFit x) : KFit y := by
  obtain ⟨l1, l2, l3, l4, l5, l6⟩ := KC.p_len h
  simp only [KC.p, PK.mk.injEq] at h
  obtain ⟨h1, h2, h3, _, _, _⟩ := h
  have c1 : count cR y.rs = count cR x.rs := (count_p RC.p (fun p => 2 + p.its.length * 5) y.rs).trans (by rw [h1]; exact (count_p RC.p (fun p => 2 + p.its.length * 5) x.rs).symm)
  have c2 : count cM y.ms = count cM x.ms := (count_p MC.p (fun p => 4 + p.ms.length * 2) y.ms).trans (by rw [h2]; exact (count_p MC.p (fun p => 4 + p.ms.length * 2) x.ms).symm)
  have c3 : count cG y.gs = count cG x.gs := (count_p GC.p (fun p => 1 + p.m.length + p.b.length + p.o.length) y.gs).trans (by rw [h3]; exact (count_p GC.p (fun p => 1 + p.m.length + p.b.length + p.o.length) x.gs).symm)
  exact ⟨l1 ▸ f.rl, l2 ▸ f.ml, l3 ▸ f.gl, l5 ▸ f.dl, l6 ▸ f.ll, mem_p (p := RC.p) (Q := fun p => p.its.length <= 1048576) h1 f.ri, mem_p (p := MC.p) (Q := fun p => p.ms.length <= 1048576) h2 f.mi, mem_p (p := GC.p) (Q := fun p => p.m.length <= 1048576 /\ p.b.length <= 1048576 /\ p.o.length <= 1048576) h3 f.gi, c1 ▸ f.rc, c2 ▸ f.mc, c3 ▸ f.gc⟩
end Go.Proofs.YtengolneibbdfaaGreat.Gen
