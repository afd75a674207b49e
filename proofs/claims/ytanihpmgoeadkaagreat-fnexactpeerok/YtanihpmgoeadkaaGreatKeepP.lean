/-
  What is asked of a keeper hangs on its content alone, not on where it lies. No condition.
-/
import Derived.Test.YtanihpmgoeadkaaGreatKOk
import Derived.Test.YtanihpmgoeadkaaGreatKeepTo
namespace Go.Proofs.YtanihpmgoeadkaaGreat.Gen
open Go.ChangeShapes Go.WideShapes Go.ChangeAt Go.RowKit Go.Joins Go.Deep Base
set_option linter.unusedVariables false
def rowFp (p : PR) : Bool := Items.rowB p.start p.next p.its
def makFp (ro wi : Int) (p : PM) : Bool := okB p.row p.who p.epoch p.last wi p.ms && decide (p.row < ro)
def grpFp (ro : Int) (p : PG) : Bool := gokB p.gen ro p.m p.b p.o
def behP (a b : PM) : Bool := decide (a.row < b.row) || (decide (a.row = b.row) && decide (a.who < b.who))
def ordP (l : List PM) (i : Nat) : Bool := decide (i = 0) || behP (l.getD (i - 1) (default : MC).p) (l.getD i (default : MC).p)
theorem all_p {α β : Type} (p : α -> β) (f : β -> Bool) (l : List α) : l.all (fun x => f (p x)) = (l.map p).all f := by rw [List.all_map]; rfl
theorem getD_p {α β : Type} (p : α -> β) (l : List α) (i : Nat) (d : α) : p (l.getD i d) = (l.map p).getD i (p d) := by
  simp only [List.getD_eq_getElem?_getD, List.getElem?_map]
  cases l[i]?<;>rfl
theorem ordTo_p (l : List MC) (n : Nat) : ordTo l n = (List.range n).all (ordP (l.map MC.p)) := by
  unfold ordTo
  congr 1
  funext i
  simp only [ordAt, ordP, ← getD_p]
  rfl
theorem count_p {α β : Type} (p : α -> β) (c : β -> Nat) (l : List α) : count (fun x => c (p x)) l = count c (l.map p) := by simp [count, List.map_map, Function.comp_def]
theorem mem_p {α β : Type} {p : α -> β} {Q : β -> Prop} {l m : List α} (h : m.map p = l.map p) (hl : ∀ x ∈ l, Q (p x)) : ∀ x ∈ m, Q (p x) := fun x hx => by
  have : p x ∈ l.map p := h ▸ List.mem_map_of_mem hx
  obtain ⟨y, hy, e⟩ := List.mem_map.1 this
  rw [← e]; exact hl y hy
theorem keepB_p {x y : KC} (h : y.p = x.p) (ro wi le ke : Int) : keepB ro wi le ke y = keepB ro wi le ke x := by
  obtain ⟨l1, l2, l3, l4, l5, l6⟩ := KC.p_len h
  simp only [KC.p, PK.mk.injEq] at h
  obtain ⟨h1, h2, h3, _, _, _⟩ := h
  have e1 : y.rs.all rowF = x.rs.all rowF := (all_p RC.p rowFp y.rs).trans (by rw [h1]; exact (all_p RC.p rowFp x.rs).symm)
  have e2 : y.ms.all (makF ro wi) = x.ms.all (makF ro wi) := (all_p MC.p (makFp ro wi) y.ms).trans (by rw [h2]; exact (all_p MC.p (makFp ro wi) x.ms).symm)
  have e3 : y.gs.all (grpF ro) = x.gs.all (grpF ro) := (all_p GC.p (grpFp ro) y.gs).trans (by rw [h3]; exact (all_p GC.p (grpFp ro) x.gs).symm)
  have e4 : ordTo y.ms y.ms.length = ordTo x.ms x.ms.length := by rw [ordTo_p, ordTo_p, l2, h2]
  unfold keepB
  rw [e1, e2, e3, e4, l1, l3, l4, l5, l6]
theorem fit_p {x y : KC} (h : y.p = x.p) (f : KFit x) : KFit y := by
  obtain ⟨l1, l2, l3, l4, l5, l6⟩ := KC.p_len h
  simp only [KC.p, PK.mk.injEq] at h
  obtain ⟨h1, h2, h3, _, _, _⟩ := h
  have c1 : count cR y.rs = count cR x.rs := (count_p RC.p (fun p => 2 + p.its.length * 5) y.rs).trans (by rw [h1]; exact (count_p RC.p (fun p => 2 + p.its.length * 5) x.rs).symm)
  have c2 : count cM y.ms = count cM x.ms := (count_p MC.p (fun p => 4 + p.ms.length * 2) y.ms).trans (by rw [h2]; exact (count_p MC.p (fun p => 4 + p.ms.length * 2) x.ms).symm)
  have c3 : count cG y.gs = count cG x.gs := (count_p GC.p (fun p => 1 + p.m.length + p.b.length + p.o.length) y.gs).trans (by rw [h3]; exact (count_p GC.p (fun p => 1 + p.m.length + p.b.length + p.o.length) x.gs).symm)
  exact ⟨l1 ▸ f.rl, l2 ▸ f.ml, l3 ▸ f.gl, l5 ▸ f.dl, l6 ▸ f.ll, mem_p (p := RC.p) (Q := fun p => p.its.length <= 1048576) h1 f.ri, mem_p (p := MC.p) (Q := fun p => p.ms.length <= 1048576) h2 f.mi, mem_p (p := GC.p) (Q := fun p => p.m.length <= 1048576 /\ p.b.length <= 1048576 /\ p.o.length <= 1048576) h3 f.gi, c1 ▸ f.rc, c2 ▸ f.mc, c3 ▸ f.gc⟩
theorem ask_p {x y : KC} (h : y.p = x.p) (f : KAsk x) : KAsk y := by
  have l6 := (KC.p_len h).2.2.2.2.2
  have h1 : y.rs.map RC.p = x.rs.map RC.p := by simp only [KC.p, PK.mk.injEq] at h; exact h.1
  exact ⟨fit_p h f.fit, mem_p (p := RC.p) (Q := fun p => I64 p.start /\ I64 p.next /\ p.its.length <= 9223372036854775807 /\ ∀ y ∈ p.its, y.right) h1 f.rr, l6 ▸ f.lr⟩
end Go.Proofs.YtanihpmgoeadkaaGreat.Gen
