/-
  What is asked of a keeper hangs on its content alone, not on where it lies. No condition.
-/
import Derived.Test.YtglegpkcikacoaaGreatDoorKOk
set_option linter.unusedVariables false
set_option linter.unusedSimpArgs false
set_option maxRecDepth 100000
set_option maxHeartbeats 8000000
namespace Go.Proofs.YtglegpkcikacoaaGreatDoor.Gen
open ChangeShapes WideShapes ChangeAt RowKit Joins Deep Base
def rowFp (p : PR) : Bool := Items.rowB p.start p.next p.its
def makFp (ro wi : Int) (p : PM) : Bool := okB p.row p.who p.epoch p.last wi p.ms && decide (p.row < ro)
def grpFp (ro : Int) (p : PG) : Bool := gokB p.gen ro p.m p.b p.o
def behP (a b : PM) : Bool := decide (a.row < b.row) || (decide (a.row = b.row) && decide (a.who < b.who))
def ordP (l : List PM) (i : Nat) : Bool := decide (i = 0) || behP (l.getD (i - 1) (default : MC).p) (l.getD i (default : MC).p)
theorem all_p {α β : Type} (p : α -> β) (f : β -> Bool) (l : List α) : l.all (fun x => f (p x)) = (l.map p).all f := by rw [List.all_map]; rfl
theorem getD_p {α β : Type} (p : α -> β) (l : List α) (i : Nat) (d : α) : p (l.getD i d) = (l.map p).getD i (p d) := by
 simp only [List.getD_eq_getElem?_getD, List.getElem?_map]
 cases l[i]?<;>rfl
theorem ordTo_p (l : List MC) (n : Nat) : Qbv l n = (List.range n).all (ordP (l.map MC.p)) := by
 unfold Qbv
 congr 1
 funext i
 simp only [Qfy, ordP, ← getD_p]
 rfl
theorem Qbx {α β : Type} (p : α -> β) (c : β -> Nat) (l : List α) : Qac (fun x => c (p x)) l = Qac c (l.map p) := by simp [Qac, List.map_map, Function.comp_def]
theorem mem_p {α β : Type} {p : α -> β} {Q : β -> Prop} {l m : List α} (h : m.map p = l.map p) (hl : ∀ x ∈ l, Q (p x)) : ∀ x ∈ m, Q (p x) := fun x hx => by
 have : p x ∈ l.map p := h ▸ List.mem_map_of_mem hx
 obtain ⟨y, hy, e⟩ := List.mem_map.1 this
 rw [← e]; exact hl y hy
theorem keepB_p {x y : KC} (h : y.p = x.p) (ro wi le ke : Int) : Qbu ro wi le ke y = Qbu ro wi le ke x := by
 obtain ⟨l1, l2, l3, l4, l5, l6⟩ := KC.p_len h
 simp only [KC.p, PK.mk.injEq] at h
 obtain ⟨h1, h2, h3, _, _, _⟩ := h
 have e1 : y.rs.all rowF = x.rs.all rowF := (all_p RC.p rowFp y.rs).trans (by rw [h1]; exact (all_p RC.p rowFp x.rs).symm)
 have e2 : y.ms.all (makF ro wi) = x.ms.all (makF ro wi) := (all_p MC.p (makFp ro wi) y.ms).trans (by rw [h2]; exact (all_p MC.p (makFp ro wi) x.ms).symm)
 have e3 : y.gs.all (grpF ro) = x.gs.all (grpF ro) := (all_p GC.p (grpFp ro) y.gs).trans (by rw [h3]; exact (all_p GC.p (grpFp ro) x.gs).symm)
 have e4 : Qbv y.ms y.ms.length = Qbv x.ms x.ms.length := by rw [ordTo_p, ordTo_p, l2, h2]
 unfold Qbu
 rw [e1, e2, e3, e4, l1, l3, l4, l5, l6]
theorem fit_p {x y : KC} (h : y.p = x.p) (f : KFit x) : KFit y := by
 obtain ⟨l1, l2, l3, l4, l5, l6⟩ := KC.p_len h
 simp only [KC.p, PK.mk.injEq] at h
 obtain ⟨h1, h2, h3, _, _, _⟩ := h
 have c1 : Qac cR y.rs = Qac cR x.rs := (Qbx RC.p (fun p => 2 + p.its.length * 5) y.rs).trans (by rw [h1]; exact (Qbx RC.p (fun p => 2 + p.its.length * 5) x.rs).symm)
 have c2 : Qac cM y.ms = Qac cM x.ms := (Qbx MC.p (fun p => 4 + p.ms.length * 2) y.ms).trans (by rw [h2]; exact (Qbx MC.p (fun p => 4 + p.ms.length * 2) x.ms).symm)
 have c3 : Qac cG y.gs = Qac cG x.gs := (Qbx GC.p (fun p => 1 + p.m.length + p.b.length + p.o.length) y.gs).trans (by rw [h3]; exact (Qbx GC.p (fun p => 1 + p.m.length + p.b.length + p.o.length) x.gs).symm)
 exact ⟨l1 ▸ f.rl, l2 ▸ f.ml, l3 ▸ f.gl, l5 ▸ f.dl, l6 ▸ f.ll, mem_p (p := RC.p) (Q := fun p => p.its.length <= 1048576) h1 f.ri, mem_p (p := MC.p) (Q := fun p => p.ms.length <= 1048576) h2 f.mi, mem_p (p := GC.p) (Q := fun p => p.m.length <= 1048576 /\ p.b.length <= 1048576 /\ p.o.length <= 1048576) h3 f.gi, c1 ▸ f.rc, c2 ▸ f.mc, c3 ▸ f.gc⟩
end Go.Proofs.YtglegpkcikacoaaGreatDoor.Gen
