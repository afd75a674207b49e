/-
  What is asked of a keeper hangs on its content alone, not on where it lies. No condition.
-/
import Derived.Test.YtddijnmdeabjbaaGreatSetups
import Derived.Test.YtddijnmdeabjbaaGreatImplRight
import Derived.Test.YtddijnmdeabjbaaGreatKeepTo
set_option linter.unusedVariables false
set_option linter.unusedSimpArgs false
set_option maxRecDepth 100000
set_option maxHeartbeats 8000000
namespace Go.Proofs.YtddijnmdeabjbaaGreat.Gen
open ChangeShapes WideShapes ChangeAt RowKit Joins Deep Base
theorem Qas {α β : Type} (p : α -> β) (c : β -> Nat) (l : List α) : Qad (fun x => c (p x)) l = Qad c (l.map p) := by simp [Qad, List.map_map, Function.comp_def]
theorem mem_p {α β : Type} {p : α -> β} {Q : β -> Prop} {l m : List α} (h : m.map p = l.map p) (hl : ∀ x ∈ l, Q (p x)) : ∀ x ∈ m, Q (p x) := fun x hx => by
 have : p x ∈ l.map p := h ▸ List.mem_map_of_mem hx
 obtain ⟨y, hy, e⟩ := List.mem_map.1 this
 rw [← e]; exact hl y hy
theorem fit_p {x y : KC} (h : y.p = x.p) (f : KFit x) : KFit y := by
 obtain ⟨l1, l2, l3, l4, l5, l6⟩ := KC.p_len h
 simp only [KC.p, PK.mk.injEq] at h
 obtain ⟨h1, h2, h3, _, _, _⟩ := h
 have c1 : Qad cR y.rs = Qad cR x.rs := (Qas RC.p (fun p => 2 + p.its.length * 5) y.rs).trans (by rw [h1]; exact (Qas RC.p (fun p => 2 + p.its.length * 5) x.rs).symm)
 have c2 : Qad cM y.ms = Qad cM x.ms := (Qas MC.p (fun p => 4 + p.ms.length * 2) y.ms).trans (by rw [h2]; exact (Qas MC.p (fun p => 4 + p.ms.length * 2) x.ms).symm)
 have c3 : Qad cG y.gs = Qad cG x.gs := (Qas GC.p (fun p => 1 + p.m.length + p.b.length + p.o.length) y.gs).trans (by rw [h3]; exact (Qas GC.p (fun p => 1 + p.m.length + p.b.length + p.o.length) x.gs).symm)
 exact ⟨l1 ▸ f.rl, l2 ▸ f.ml, l3 ▸ f.gl, l5 ▸ f.dl, l6 ▸ f.ll, mem_p (p := RC.p) (Q := fun p => p.its.length <= 1048576) h1 f.ri, mem_p (p := MC.p) (Q := fun p => p.ms.length <= 1048576) h2 f.mi, mem_p (p := GC.p) (Q := fun p => p.m.length <= 1048576 /\ p.b.length <= 1048576 /\ p.o.length <= 1048576) h3 f.gi, c1 ▸ f.rc, c2 ▸ f.mc, c3 ▸ f.gc⟩
end Go.Proofs.YtddijnmdeabjbaaGreat.Gen
