/-
  The program's row tells its items: rowOf.told, rowOf.toldFromBehind and their functions, for every loop that keeps what lay ahead.
-/
import Derived.RangeFuncNested
import Derived.RangeFuncBound
import Derived.Shelf.RegionOpen
import Derived.OwnWalkIn
import Derived.LoopNIn
import Derived.LoopIn
import Derived.Test.YtglegpkcikacoaaGreatDoorAnsList
set_option linter.unusedVariables false
set_option linter.unusedSimpArgs false
set_option maxRecDepth 100000
set_option maxHeartbeats 8000000
namespace Go.Proofs.YtglegpkcikacoaaGreatDoor.Items
open ChangeShapes WideShapes ChangeAt RowKit Shelf Base
attribute [local go_sem] Oper.semAt_some
abbrev Of (its : List It) : Type := { x : It // x ∈ its }
def vals {its : List It} (l : List (Of its)) : List It := l.map Subtype.val
theorem Qht {its : List It} (l : List (Of its)) (x : Of its) : vals (l ++ [x]) = vals l ++ [x.1] := by simp [vals]
theorem take_next {α : Type} {l : List α} {k : Nat} (h : k < l.length) : l.take (k + 1) = l.take k ++ [l[k]] := by simp [List.take_append_getElem]
theorem Qey (its : List It) : vals its.attach = its := by simp [vals]
theorem vals_pre {its : List It} {p q : List (Of its)} (h : p <+: q) : vals p <+: vals q := h.map _
theorem told1_in (F : Fence) (n : Nat) (hf : F.fn 204) (hro : F.round = none) (hn : 1 <= n) (l Bs n₀ b o cap : Nat) (its : List It) (hl : its.length <= 2000000) (hb : b < n₀) (J Jx : List (Of its) -> World -> Prop)
 (hJ : ∀ pre W o, J pre W -> J pre (W.alloc o))
 (hY : ∀ pre (x : Of its) W, J pre W -> pre.length < its.length -> YieldAt F (n - 1) Tryz.prog l #[x.1.v] W fun e W' =>
  (e = .returned (.bool true) /\ J (pre ++ [x]) W' /\ Below n₀ W W') ∨ (e = .returned (.bool false) /\ Jx (pre ++ [x]) W'))
 (W : World) (hn₀ : n₀ <= W.heap.size) (hBs : W.cell? ⟨Bs, 2, none⟩ = some (.slice (some ⟨b, o, none⟩) its.length cap)) (hin : In W b o its) (h0 : J [] W) :
 CallsIn F n Tryz.prog 204 #[.func (.yield l) #[] #[], .pointer (some ⟨Bs, 0, none⟩)] W fun e W' => (∃ v, e = .returned v) /\
  ((∃ ys, ys = its.attach /\ J ys W') ∨ (∃ pre, pre <+: its.attach /\ Jx pre W')) := by
 refine callsIn_of_wp Tryz.func204 rfl hf ?_ hro
 simp only [Tryz.ntmps204]
 simp only [List.size_toArray, List.length_cons, List.length_nil, Nat.reduceAdd, Nat.reduceSub, Array.replicate_succ, Array.replicate_zero, List.push_toArray, List.append_toArray, List.nil_append, List.cons_append]
 gi_wp2
 gi_loopw [8] (fun i wr => ∃ k : Nat, k <= its.length /\ i = .int .i64 k /\ J (its.attach.take k) wr /\ Below n₀ W wr)
  (fun i _ => its.length - (intOf i).toNat)
 case atStart => exact ⟨0, Nat.zero_le _, rfl, by simpa using h0, Below.refl _ _⟩
 case round =>
  obtain ⟨k, hk, rfl, hJs, hnx⟩ := hrel
  have hsz := hnx.size
  by_cases hlt : k < its.length
  . have hin' : In wr b o its := fun j v hv => (hnx.cell (p := ⟨b, o + j, none⟩) hb).trans (hin j v hv)
    obtain ⟨c0, c1, c2, c3, c4⟩ := hin'.get k hlt
    have hY' := hY (its.attach.take k) ⟨its[k], List.getElem_mem hlt⟩ (wr.alloc (.cells #[.int .i64 its[k].off, .string its[k].key, .string its[k].text, .int .i64 its[k].who, .int .i64 its[k].time] 136)) (hJ _ _ _ hJs) (by simp; omega)
    have hnext : its.attach.take (k + 1) = its.attach.take k ++ [⟨its[k], List.getElem_mem hlt⟩] := by rw [take_next (by simpa using hlt)]; simp
    clear hY
    obtain ⟨fn, tmps, assign, body, hy, hR⟩ := hY'
    dsimp only [It.v] at hy
    gi_wp2
    refine hR.mono ?_
    rintro e W3 (⟨rfl, hJ3, hk3⟩ | ⟨rfl, hJx3⟩)
    . gi_wp2
      go_roundw
      case rel => exact ⟨k + 1, by omega, by simp, by rw [hnext]; exact hJ3, (hnx.alloc (by omega) _).trans hk3⟩
      case measure => simp [intOf]; omega
    . gi_wp2
      refine bodyPost_ret (results_none rfl _ _ _) rfl ?_
      exact ⟨⟨_, rfl⟩, .inr ⟨_, by rw [← hnext]; exact List.take_prefix _ _, hJx3⟩⟩
  . obtain rfl : k = its.length := by omega
    gi_wp2
    go_end0
    exact ⟨⟨_, rfl⟩, .inl ⟨_, rfl, by rw [List.take_of_length_le (by simp)] at hJs; exact hJs⟩⟩
theorem Qhw (F : Fence) (n : Nat) (hf : F.fn 204) (hro : F.round = none) (l Bs cap : Nat) (A : Option Addr) {α : Type} (J : List α -> World -> Prop) (W : World) (hBs : W.cell? ⟨Bs, 2, none⟩ = some (.slice A 0 cap)) (h0 : J [] W) :
 CallsIn F n Tryz.prog 204 #[.func (.yield l) #[] #[], .pointer (some ⟨Bs, 0, none⟩)] W fun e W' => (∃ v, e = .returned v) /\ J [] W' := by
 refine callsIn_of_wp Tryz.func204 rfl hf ?_ hro
 simp only [Tryz.ntmps204]
 simp only [List.size_toArray, List.length_cons, List.length_nil, Nat.reduceAdd, Nat.reduceSub, Array.replicate_succ, Array.replicate_zero, List.push_toArray, List.append_toArray, List.nil_append, List.cons_append]
 gi_wp2
 gi_loopw [8] (fun i wr => i = .int .i64 0 /\ J [] wr) (fun _ _ => 0)
 case atStart => exact ⟨rfl, h0⟩
 case round =>
  obtain ⟨rfl, hJs⟩ := hrel
  gi_wp2
  go_end0
  exact ⟨⟨_, rfl⟩, hJs⟩
theorem told_in (F : Fence) (n : Nat) (hf : F.fn 176) (hro : F.round = none) (start next : Int) (A : Option Addr) (len cap : Nat) (w : World) :
 CallsIn F n Tryz.prog 176 #[.agg #[.int .i64 start, .int .i64 next, .slice A len cap]] w fun e w' => e = .returned (.func (.func 204) #[] #[.pointer (some ⟨w.heap.size, 0, none⟩)]) /\ w' = w.alloc (.cells #[.int .i64 start, .int .i64 next, .slice A len cap] 133) := by
 refine callsIn_of_wp Tryz.func176 rfl hf ?_ hro
 simp only [Tryz.ntmps176]
 simp only [List.size_toArray, List.length_cons, List.length_nil, Nat.reduceAdd, Nat.reduceSub, Array.replicate_succ, Array.replicate_zero, List.push_toArray, List.append_toArray, List.nil_append, List.cons_append]
 gi_wp2
 go_ret
 exact ⟨rfl, rfl⟩
theorem Qjp {β : Type} {B : Nat} {J : β -> World -> Prop} (h : AbidesFrom B J) (pre : β) (W : World) (o : Obj) (hj : J pre W) : J pre (W.alloc o) :=
 h pre W _ none hj (World.grownBy_alloc W o none) (fun r e => by cases e)
theorem Qgj (F : Fence) (n : Nat) (hf : F.fn 204) (hro : F.round = none) (hn : 1 <= n) (Bs n₀ cap : Nat) (A : Option Addr) (its : List It) (hl : its.length <= 2000000) (w : World) (hBs : Bs < w.heap.size) (hn₀ : n₀ <= w.heap.size)
 (hc : w.cell? ⟨Bs, 2, none⟩ = some (.slice A its.length cap)) (hA : its = [] ∨ ∃ b o, A = some ⟨b, o, none⟩ /\ b < n₀ /\ In w b o its) :
 SeqStopsK F n Tryz.prog 204 #[.pointer (some ⟨Bs, 0, none⟩)] (fun x : Of its => #[x.1.v]) (Below n₀) (fun ys => vals ys = its) (fun pre => vals pre <+: its) its.length w := fun l J Jx W hW hJ _ hY h0 => by
 have hc' := (hW.cell (p := ⟨Bs, 2, none⟩) hBs).trans hc
 rcases hA with rfl | ⟨b, o, rfl, hb, hin⟩
 . exact (Qhw F n hf hro l Bs cap A J W hc' h0).mono fun e W' ⟨he, hj⟩ => ⟨he, .inl ⟨_, rfl, hj⟩⟩
 . refine (told1_in F n hf hro hn l Bs n₀ b o cap its hl hb J Jx (fun pre W o hj => Qjp hJ pre W o hj) hY W (Nat.le_trans hn₀ hW.size) hc' (fun j v hv => (hW.cell (p := ⟨b, o + j, none⟩) (Nat.lt_of_lt_of_le hb hn₀)).trans (hin j v hv)) h0).mono ?_
   rintro e W' ⟨he, ⟨ys, rfl, hj⟩ | ⟨pre, hp, hj⟩⟩
   . exact ⟨he, .inl ⟨_, Qey its, hj⟩⟩
   . exact ⟨he, .inr ⟨_, by have := vals_pre hp; rwa [Qey] at this, hj⟩⟩
def Blk (W : World) (B : Nat) (t : TypeId) (vs : Array Value) : Prop := W.heap[B]? = some (.cells vs t (0, 0))
theorem Blk.lt {W : World} {B : Nat} {t : TypeId} {vs : Array Value} (h : Blk W B t vs) : B < W.heap.size := (Array.getElem?_eq_some_iff.1 h).1
theorem Blk.cell {W : World} {B : Nat} {t : TypeId} {vs : Array Value} (h : Blk W B t vs) {i : Nat} {v : Value} (hv : vs[i]? = some v) : W.cell? ⟨B, i, none⟩ = some v := by simp [World.cell?, show W.heap[B]? = _ from h, hv]
theorem Blk.new (W : World) (t : TypeId) (vs : Array Value) : Blk (W.alloc (.cells vs t)) W.heap.size t vs := World.alloc_heap_new W _
theorem Blk.kept {W W' : World} {row : Option Nat} {B : Nat} {t : TypeId} {vs : Array Value} (h : Blk W B t vs) (hg : W.grownBy W' row) (hne : some B ≠ row) : Blk W' B t vs := (hg.block B h.lt hne).trans h
theorem Blk.alloc {W : World} {B : Nat} {t : TypeId} {vs : Array Value} (h : Blk W B t vs) (o : Obj) : Blk (W.alloc o) B t vs := h.kept (World.grownBy_alloc W o none) (by simp)
theorem Blk.other {W : World} {B B' : Nat} {t : TypeId} {vs : Array Value} (h : Blk W B t vs) (hne : B ≠ B') (i : Nat) (u : Value) : Blk (W.setCell ⟨B', i, none⟩ u) B t vs := by
 show (W.heap.modify B' _)[B]? = _
 rw [Array.getElem?_modify, if_neg (Ne.symm hne)]; exact h
theorem Blk.below {W W' : World} {n : Nat} {B : Nat} {t : TypeId} {vs : Array Value} (h : Blk W B t vs) (hb : Below n W W') (hn : B < n) : Blk W' B t vs := (hb.block B hn).trans h
theorem blk_own {β : Type} (B : Nat) (t : TypeId) (f : β -> Array Value) : Own (fun s W => Blk W B t (f s)) := fun s X Y row hs hg hrow =>
 hs.kept hg (fun e' => by obtain ⟨o, ho, hc⟩ := hrow B e'.symm; rw [show X.heap[B]? = _ from hs] at ho; cases ho; cases hc)
end Go.Proofs.YtglegpkcikacoaaGreatDoor.Items
