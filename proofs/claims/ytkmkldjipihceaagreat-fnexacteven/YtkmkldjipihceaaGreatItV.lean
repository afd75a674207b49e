/-
  An item as a value; the item of zeros.
-/
import Derived.Test.YtkmkldjipihceaaGreatItems
import Derived.RangeFuncNested
import Derived.RangeFuncBound
import Derived.Shelf.RegionOpen
import Derived.OwnWalkIn
import Derived.LoopNIn
import Derived.LoopIn
set_option linter.unusedVariables false
set_option linter.unusedSimpArgs false
set_option maxRecDepth 100000
set_option maxHeartbeats 8000000
set_option maxRecDepth 100000
set_option maxHeartbeats 8000000
namespace Go.Proofs.YtkmkldjipihceaaGreat.Items
open ChangeShapes WideShapes ChangeAt RowKit Base
def It.v (x : It) : Value := .agg (Qbf x.off x.key x.text x.who x.time)
open Shelf
attribute [local go_sem] Oper.semAt_some
abbrev Of (its : List It) : Type := { x : It // x ∈ its }
def vals {its : List It} (l : List (Of its)) : List It := l.map Subtype.val
theorem Qgg {its : List It} (l : List (Of its)) (x : Of its) : vals (l ++ [x]) = vals l ++ [x.1] := by simp [vals]
theorem take_next {α : Type} {l : List α} {k : Nat} (h : k < l.length) : l.take (k + 1) = l.take k ++ [l[k]] := by simp [List.take_append_getElem]
theorem Qd8 (its : List It) : vals its.attach = its := by simp [vals]
theorem vals_pre {its : List It} {p q : List (Of its)} (h : p <+: q) : vals p <+: vals q := h.map _
theorem told1_in (F : Fence) (n : Nat) (hf : F.fn 190) (hro : F.round = none) (hn : 1 <= n) (l Bs n₀ b o cap : Nat) (its : List It) (hl : its.length <= 2000000) (hb : b < n₀) (J Jx : List (Of its) -> World -> Prop)
 (hJ : ∀ pre W o, J pre W -> J pre (W.alloc o))
 (hY : ∀ pre (x : Of its) W, J pre W -> pre.length < its.length -> YieldAt F (n - 1) Tryz.prog l #[x.1.v] W fun e W' =>
  (e = .returned (.bool true) /\ J (pre ++ [x]) W' /\ Below n₀ W W') ∨ (e = .returned (.bool false) /\ Jx (pre ++ [x]) W'))
 (W : World) (hn₀ : n₀ <= W.heap.size) (hBs : W.cell? ⟨Bs, 2, none⟩ = some (.slice (some ⟨b, o, none⟩) its.length cap)) (hin : In W b o its) (h0 : J [] W) :
 CallsIn F n Tryz.prog 190 #[.func (.yield l) #[] #[], .pointer (some ⟨Bs, 0, none⟩)] W fun e W' => (∃ v, e = .returned v) /\
  ((∃ ys, ys = its.attach /\ J ys W') ∨ (∃ pre, pre <+: its.attach /\ Jx pre W')) := by
 refine callsIn_of_wp Tryz.func190 rfl hf ?_ hro
 simp only [Tryz.ntmps190]
 simp only [List.size_toArray, List.length_cons, List.length_nil, Nat.reduceAdd, Nat.reduceSub, Array.replicate_succ, Array.replicate_zero, List.push_toArray, List.append_toArray, List.nil_append, List.cons_append]
 gi_wp2
 gi_loopw [8] (fun i wr => ∃ k : Nat, k <= its.length /\ i = .int .i64 k /\ J (its.attach.take k) wr /\ Below n₀ W wr)
  (fun i _ => its.length - (intOf i).toNat)
 case atStart => exact ⟨0, Nat.zero_le _, rfl, by simpa using h0, Below.refl _ _⟩
 case round =>
  obtain ⟨k, hk, rfl, hJs, hnx⟩ := hrel
  have hsz := hnx.size
  by_cases hlt : k < its.length
  . have hin' : In wr b o its := fun j v hv => (hnx.cell (p := ⟨b, o + j, none⟩) hb).trans (hin j v hv)
    obtain ⟨c0, c1, c2, c3, c4⟩ := hin'.get k hlt
    have hY' := hY (its.attach.take k) ⟨its[k], List.getElem_mem hlt⟩ (wr.alloc (.cells (Qbf its[k].off its[k].key its[k].text its[k].who its[k].time) 225)) (hJ _ _ _ hJs) (by simp; omega)
    have hnext : its.attach.take (k + 1) = its.attach.take k ++ [⟨its[k], List.getElem_mem hlt⟩] := by rw [take_next (by simpa using hlt)]; simp
    clear hY
    obtain ⟨fn, tmps, assign, body, hy, hR⟩ := hY'
    dsimp only [It.v] at hy
    gi_wp2
    refine hR.mono ?_
    rintro e W3 (⟨rfl, hJ3, hk3⟩ | ⟨rfl, hJx3⟩)
    . gi_wp2
      go_roundw
      case rel => exact ⟨k + 1, by omega, by simp, by rw [hnext]; exact hJ3, (hnx.alloc (by omega) _).trans hk3⟩
      case measure => simp [intOf]; omega
    . gi_wp2
      refine bodyPost_ret (results_none rfl _ _ _) rfl ?_
      exact ⟨⟨_, rfl⟩, .inr ⟨_, by rw [← hnext]; exact List.take_prefix _ _, hJx3⟩⟩
  . obtain rfl : k = its.length := by omega
    gi_wp2
    go_end0
    exact ⟨⟨_, rfl⟩, .inl ⟨_, rfl, by rw [List.take_of_length_le (by simp)] at hJs; exact hJs⟩⟩
theorem Qgh (F : Fence) (n : Nat) (hf : F.fn 190) (hro : F.round = none) (l Bs cap : Nat) (A : Option Addr) {α : Type} (J : List α -> World -> Prop) (W : World) (hBs : W.cell? ⟨Bs, 2, none⟩ = some (.slice A 0 cap)) (h0 : J [] W) :
 CallsIn F n Tryz.prog 190 #[.func (.yield l) #[] #[], .pointer (some ⟨Bs, 0, none⟩)] W fun e W' => (∃ v, e = .returned v) /\ J [] W' := by
 refine callsIn_of_wp Tryz.func190 rfl hf ?_ hro
 simp only [Tryz.ntmps190]
 simp only [List.size_toArray, List.length_cons, List.length_nil, Nat.reduceAdd, Nat.reduceSub, Array.replicate_succ, Array.replicate_zero, List.push_toArray, List.append_toArray, List.nil_append, List.cons_append]
 gi_wp2
 gi_loopw [8] (fun i wr => i = .int .i64 0 /\ J [] wr) (fun _ _ => 0)
 case atStart => exact ⟨rfl, h0⟩
 case round =>
  obtain ⟨rfl, hJs⟩ := hrel
  gi_wp2
  go_end0
  exact ⟨⟨_, rfl⟩, hJs⟩
theorem told_in (F : Fence) (n : Nat) (hf : F.fn 189) (hro : F.round = none) (start next : Int) (A : Option Addr) (len cap : Nat) (w : World) :
 CallsIn F n Tryz.prog 189 #[.agg (Qap start next A len cap)] w fun e w' => e = .returned (.func (.func 190) #[] #[.pointer (some ⟨w.heap.size, 0, none⟩)]) /\ w' = w.alloc (.cells (Qap start next A len cap) 254) := by
 refine callsIn_of_wp Tryz.func189 rfl hf ?_ hro
 simp only [Tryz.ntmps189]
 simp only [List.size_toArray, List.length_cons, List.length_nil, Nat.reduceAdd, Nat.reduceSub, Array.replicate_succ, Array.replicate_zero, List.push_toArray, List.append_toArray, List.nil_append, List.cons_append]
 gi_wp2
 go_ret
 exact ⟨rfl, rfl⟩
theorem Qhh {β : Type} {B : Nat} {J : β -> World -> Prop} (h : AbidesFrom B J) (pre : β) (W : World) (o : Obj) (hj : J pre W) : J pre (W.alloc o) :=
 h pre W _ none hj (World.grownBy_alloc W o none) (fun r e => by cases e)
theorem Qe9 (F : Fence) (n : Nat) (hf : F.fn 190) (hro : F.round = none) (hn : 1 <= n) (Bs n₀ cap : Nat) (A : Option Addr) (its : List It) (hl : its.length <= 2000000) (w : World) (hBs : Bs < w.heap.size) (hn₀ : n₀ <= w.heap.size)
 (hc : w.cell? ⟨Bs, 2, none⟩ = some (.slice A its.length cap)) (hA : its = [] ∨ ∃ b o, A = some ⟨b, o, none⟩ /\ b < n₀ /\ In w b o its) :
 SeqStopsK F n Tryz.prog 190 #[.pointer (some ⟨Bs, 0, none⟩)] (fun x : Of its => #[x.1.v]) (Below n₀) (fun ys => vals ys = its) (fun pre => vals pre <+: its) its.length w := fun l J Jx W hW hJ _ hY h0 => by
 have hc' := (hW.cell (p := ⟨Bs, 2, none⟩) hBs).trans hc
 rcases hA with rfl | ⟨b, o, rfl, hb, hin⟩
 . exact (Qgh F n hf hro l Bs cap A J W hc' h0).mono fun e W' ⟨he, hj⟩ => ⟨he, .inl ⟨_, rfl, hj⟩⟩
 . refine (told1_in F n hf hro hn l Bs n₀ b o cap its hl hb J Jx (fun pre W o hj => Qhh hJ pre W o hj) hY W (Nat.le_trans hn₀ hW.size) hc' (fun j v hv => (hW.cell (p := ⟨b, o + j, none⟩) (Nat.lt_of_lt_of_le hb hn₀)).trans (hin j v hv)) h0).mono ?_
   rintro e W' ⟨he, ⟨ys, rfl, hj⟩ | ⟨pre, hp, hj⟩⟩
   . exact ⟨he, .inl ⟨_, Qd8 its, hj⟩⟩
   . exact ⟨he, .inr ⟨_, by have := vals_pre hp; rwa [Qd8] at this, hj⟩⟩
def Blk (W : World) (B : Nat) (t : TypeId) (vs : Array Value) : Prop := W.heap[B]? = some (.cells vs t (0, 0))
theorem Blk.lt {W : World} {B : Nat} {t : TypeId} {vs : Array Value} (h : Blk W B t vs) : B < W.heap.size := (Array.getElem?_eq_some_iff.1 h).1
theorem Blk.cell {W : World} {B : Nat} {t : TypeId} {vs : Array Value} (h : Blk W B t vs) {i : Nat} {v : Value} (hv : vs[i]? = some v) : W.cell? ⟨B, i, none⟩ = some v := by simp [World.cell?, show W.heap[B]? = _ from h, hv]
theorem Blk.new (W : World) (t : TypeId) (vs : Array Value) : Blk (W.alloc (.cells vs t)) W.heap.size t vs := World.alloc_heap_new W _
theorem Blk.kept {W W' : World} {row : Option Nat} {B : Nat} {t : TypeId} {vs : Array Value} (h : Blk W B t vs) (hg : W.grownBy W' row) (hne : some B ≠ row) : Blk W' B t vs := (hg.block B h.lt hne).trans h
theorem Blk.alloc {W : World} {B : Nat} {t : TypeId} {vs : Array Value} (h : Blk W B t vs) (o : Obj) : Blk (W.alloc o) B t vs := h.kept (World.grownBy_alloc W o none) (by simp)
theorem Blk.other {W : World} {B B' : Nat} {t : TypeId} {vs : Array Value} (h : Blk W B t vs) (hne : B ≠ B') (i : Nat) (u : Value) : Blk (W.setCell ⟨B', i, none⟩ u) B t vs := by
 show (W.heap.modify B' _)[B]? = _
 rw [Array.getElem?_modify, if_neg (Ne.symm hne)]; exact h
theorem Blk.below {W W' : World} {n : Nat} {B : Nat} {t : TypeId} {vs : Array Value} (h : Blk W B t vs) (hb : Below n W W') (hn : B < n) : Blk W' B t vs := (hb.block B hn).trans h
theorem blk_own {β : Type} (B : Nat) (t : TypeId) (f : β -> Array Value) : Own (fun s W => Blk W B t (f s)) := fun s X Y row hs hg hrow =>
 hs.kept hg (fun e' => by obtain ⟨o, ho, hc⟩ := hrow B e'.symm; rw [show X.heap[B]? = _ from hs] at ho; cases ho; cases hc)
def Qeu (k t : ByteArray) (who time : Int) : Bool := textB k && textB t && inB who 0 3 && inB time 0 100000
def Qc0 (x : It) : Bool := Qeu x.key x.text x.who x.time
theorem four (p q r s : Bool) : p = false ∨ (p = true /\ q = false) ∨ (p = true /\ q = true /\ r = false) ∨ (p = true /\ q = true /\ r = true /\ s = false) ∨ (p = true /\ q = true /\ r = true /\ s = true) := by
 cases p<;>cases q<;>cases r<;>cases s<;>simp
theorem Qgq (off who time : Int) (k t : ByteArray) (hk : k.size <= 9223372036854775807) (ht : t.size <= 9223372036854775807) (w : World) :
 Calls Tryz.prog 141 #[.agg (Qbf off k t who time)] w fun e w' => e = .returned (.bool (Qeu k t who time)) /\ Below w.heap.size w w' := by
 rcases four (textB k) (textB t) (inB who 0 3) (inB time 0 100000) with h1 | ⟨h1, h2⟩ | ⟨h1, h2, h3⟩ | ⟨h1, h2, h3, h4⟩ | ⟨h1, h2, h3, h4⟩
 all_goals
  go_enter Tryz.func141, Tryz.ntmps141
  have q1 : w.heap.size < w.heap.size + 1 := Nat.lt_succ_self _
  go_wp2_with (first
   | (go_at_call 32; refine (in_any _ _ _ _).mono ?_; rintro e w' ⟨rfl, rfl⟩)
   | (go_at_call_of 82 (Value.string k); refine (specText_any k hk _).mono ?_; rintro e w1 ⟨rfl, g1⟩; obtain ⟨c1, f1⟩ := Qax g1; have s1 := g1.size; try simp at s1; have q1 : w.heap.size < w1.heap.size := by omega)
   | (go_at_call_of 82 (Value.string t); refine (specText_any t ht _).mono ?_; rintro e w1 ⟨rfl, g1⟩; obtain ⟨c1, f1⟩ := Qax g1; have s1 := g1.size; try simp at s1; have q1 : w.heap.size < w1.heap.size := by omega))
  go_ret
  refine ⟨by simp [Qeu, *], ?_⟩
  repeat (first | exact Below.refl _ _ | refine via0 (by assumption) ?_ | refine Below.drew ?_ | refine Qab ?_ _)
def chain (start nb : Int) : Option Int -> List It -> Bool
  | _, [] => true
  | p, x :: l => Qc0 x && inB x.off start nb && (match p with | none => true | some o => decide (o < x.off)) && chain start nb (some x.off) l
def prevO (l : List It) (n : Nat) : Option Int := match n with
  | 0 => none
  | p + 1 => (l[p]?).map (·.off)
def Qar (start nb : Int) (l : List It) (n : Nat) : Bool := chain start nb (prevO l n) (l.drop n)
theorem Qgf {start nb : Int} {l : List It} {n : Nat} (h : l.length <= n) : Qar start nb l n = true := by
 unfold Qar; rw [List.drop_eq_nil_of_le h]; rfl
def ordB (l : List It) (n : Nat) (x : Int) : Bool := match prevO l n with
  | none => true
  | some o => decide (o < x)
theorem Qe6 {start nb : Int} {l : List It} {n : Nat} (h : n < l.length) :
 Qar start nb l n = (Qc0 l[n] && inB l[n].off start nb && ordB l n l[n].off && Qar start nb l (n + 1)) := by
 have e2 : prevO l (n + 1) = some l[n].off := by simp [prevO, List.getElem?_eq_getElem h]
 unfold Qar ordB
 rw [e2, List.drop_eq_getElem_cons h]
 cases prevO l n<;>rfl
theorem ordB_zero (l : List It) (x : Int) : ordB l 0 x = true := rfl
theorem ordB_succ {l : List It} {p : Nat} (h : p < l.length) (x : Int) : ordB l (p + 1) x = decide (l[p].off < x) := by
 simp [ordB, prevO, List.getElem?_eq_getElem h]
def rowB (start next : Int) (l : List It) : Bool := Qar start (next - 1) l 0 && inB start 0 next && decide (next <= 100000) && decide (l.length <= 80)
theorem Qb6 (v : Bool) (off who time : Int) (k t : ByteArray) (hk : k.size <= 9223372036854775807) (ht : t.size <= 9223372036854775807) (h : Hid (Qeu k t who time = v)) (w : World) :
 Calls Tryz.prog 141 #[.agg (Qbf off k t who time)] w fun e w' => e = .returned (.bool v) /\ Below w.heap.size w w' := by
 have := Qgq off who time k t hk ht w
 rw [h.out] at this
 exact this
theorem in_is (v : Bool) (x lo hi : Int) (h : Hid (inB x lo hi = v)) (w : World) :
 Calls Tryz.prog 32 (Qa4 x lo hi) w fun e w' => e = .returned (.bool v) /\ w' = w := by
 have := in_any x lo hi w
 rw [h.out] at this
 exact this
end Go.Proofs.YtkmkldjipihceaaGreat.Items
