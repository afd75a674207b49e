/-
  Items in memory: a list of items lies in a block, five cells an item; a slice value that holds a list of items. No condition.
-/
import Derived.Test.YtenhcjkkpnlbeaaGreatDoorBase
import Derived.RangeFuncNested
import Derived.RangeFuncBound
import Derived.Shelf.RegionOpen
import Derived.OwnWalkIn
import Derived.LoopNIn
import Derived.LoopIn
set_option linter.unusedVariables false
set_option linter.unusedSimpArgs false
set_option maxRecDepth 100000
set_option maxHeartbeats 8000000
namespace Go.Proofs.YtenhcjkkpnlbeaaGreatDoor.Items
open ChangeShapes WideShapes ChangeAt RowKit Base
structure It where
  off : Int
  key : ByteArray
  text : ByteArray
  who : Int
  time : Int
def It.cs (x : It) : List Value := [.int .i64 x.off, .string x.key, .string x.text, .int .i64 x.who, .int .i64 x.time]
def flat (l : List It) : List Value := l.flatMap It.cs
theorem It.cs_length (x : It) : x.cs.length = 5 := rfl
theorem Qa6 (l : List It) : (flat l).length = l.length * 5 := by
 induction l with
 | nil => rfl
 | cons a l ih => simp only [flat, List.flatMap_cons, List.length_append, List.length_cons] at ih ⊢; rw [ih, It.cs_length]; omega
theorem Qbf (l m : List It) : flat (l ++ m) = flat l ++ flat m := by simp [flat]
theorem Qce (x : It) : flat [x] = x.cs := by simp [flat]
theorem Qd2 (x : It) (l : List It) : flat (x :: l) = x.cs ++ flat l := by simp [flat]
theorem Qfq (l : List It) : ∀ (i : Nat) (h : i < l.length) (f : Nat), f < 5 -> (flat l)[i * 5 + f]? = (l[i].cs)[f]? := by
 induction l with
 | nil => intro i h; simp at h
 | cons a l ih =>
  intro i h f hf
  rw [Qd2]
  cases i with
  | zero => rw [List.getElem?_append_left (by rw [It.cs_length]; omega)]; simp
  | succ i =>
   rw [List.getElem?_append_right (by rw [It.cs_length]; omega), It.cs_length]
   have e : (i + 1) * 5 + f - 5 = i * 5 + f := by omega
   rw [e, ih i (by simpa using h) f hf]; simp
def In (w : World) (b o : Nat) (l : List It) : Prop := w.rangeAt b o (flat l)
theorem In.get {w : World} {b o : Nat} {l : List It} (h : In w b o l) (i : Nat) (hi : i < l.length) :
 w.cell? ⟨b, o + i * 5, none⟩ = some (.int .i64 l[i].off) /\ w.cell? ⟨b, o + i * 5 + 1, none⟩ = some (.string l[i].key) /\ w.cell? ⟨b, o + i * 5 + 2, none⟩ = some (.string l[i].text) /\
 w.cell? ⟨b, o + i * 5 + 3, none⟩ = some (.int .i64 l[i].who) /\ w.cell? ⟨b, o + i * 5 + 4, none⟩ = some (.int .i64 l[i].time) := by
 have g : ∀ f v, f < 5 -> (l[i].cs)[f]? = some v -> w.cell? ⟨b, o + (i * 5 + f), none⟩ = some v := fun f v hf hv => h (i * 5 + f) v (by rw [Qfq l i hi f hf]; exact hv)
 exact ⟨g 0 _ (by omega) rfl, g 1 _ (by omega) rfl, g 2 _ (by omega) rfl, g 3 _ (by omega) rfl, g 4 _ (by omega) rfl⟩
theorem In.below {w w' : World} {b o : Nat} {l : List It} (h : In w b o l) (hb : b < w.heap.size) (hw : Below w.heap.size w w') : In w' b o l :=
 fun j v hv => (hw.cell (p := ⟨b, o + j, none⟩) hb).trans (h j v hv)
end Go.Proofs.YtenhcjkkpnlbeaaGreatDoor.Items
namespace Go.Proofs.YtenhcjkkpnlbeaaGreatDoor.Items
open ChangeShapes WideShapes ChangeAt RowKit Base
theorem via0 {a b c : World} (k : Below b.heap.size b c) (h : Below a.heap.size a b) : Below a.heap.size a c := h.trans (k.mono h.size)
theorem Qab {a b : World} (h : Below a.heap.size a b) (o : Obj) : Below a.heap.size a (b.alloc o) := h.alloc h.size o
def tot : List It -> Nat
  | [] => 0
  | x :: l => x.key.size + x.text.size + tot l
end Go.Proofs.YtenhcjkkpnlbeaaGreatDoor.Items
namespace Go.Proofs.YtenhcjkkpnlbeaaGreatDoor.Items
open ChangeShapes WideShapes ChangeAt RowKit Base
def It.v (x : It) : Value := .agg (Qc4 x.off x.key x.text x.who x.time)
end Go.Proofs.YtenhcjkkpnlbeaaGreatDoor.Items
namespace Go.Proofs.YtenhcjkkpnlbeaaGreatDoor.Items
open ChangeShapes WideShapes ChangeAt RowKit Shelf Base
attribute [local go_sem] Oper.semAt_some
abbrev Of (its : List It) : Type := { x : It // x ∈ its }
def vals {its : List It} (l : List (Of its)) : List It := l.map Subtype.val
theorem Qj0 {its : List It} (l : List (Of its)) (x : Of its) : vals (l ++ [x]) = vals l ++ [x.1] := by simp [vals]
theorem take_next {α : Type} {l : List α} {k : Nat} (h : k < l.length) : l.take (k + 1) = l.take k ++ [l[k]] := by simp [List.take_append_getElem]
theorem Qgs (its : List It) : vals its.attach = its := by simp [vals]
theorem vals_pre {its : List It} {p q : List (Of its)} (h : p <+: q) : vals p <+: vals q := h.map _
theorem told1_in (F : Fence) (n : Nat) (hf : F.fn 219) (hro : F.round = none) (hn : 1 <= n) (l Bs n₀ b o cap : Nat) (its : List It) (hl : its.length <= 2000000) (hb : b < n₀) (J Jx : List (Of its) -> World -> Prop)
 (hJ : ∀ pre W o, J pre W -> J pre (W.alloc o))
 (hY : ∀ pre (x : Of its) W, J pre W -> pre.length < its.length -> YieldAt F (n - 1) Tryz.prog l #[x.1.v] W fun e W' =>
  (e = .returned (.bool true) /\ J (pre ++ [x]) W' /\ Below n₀ W W') ∨ (e = .returned (.bool false) /\ Jx (pre ++ [x]) W'))
 (W : World) (hn₀ : n₀ <= W.heap.size) (hBs : W.cell? ⟨Bs, 2, none⟩ = some (.slice (some ⟨b, o, none⟩) its.length cap)) (hin : In W b o its) (h0 : J [] W) :
 CallsIn F n Tryz.prog 219 #[.func (.yield l) #[] #[], .pointer (some ⟨Bs, 0, none⟩)] W fun e W' => (∃ v, e = .returned v) /\
  ((∃ ys, ys = its.attach /\ J ys W') ∨ (∃ pre, pre <+: its.attach /\ Jx pre W')) := by
 refine callsIn_of_wp Tryz.func219 rfl hf ?_ hro
 simp only [Tryz.ntmps219]
 simp only [List.size_toArray, List.length_cons, List.length_nil, Nat.reduceAdd, Nat.reduceSub, Array.replicate_succ, Array.replicate_zero, List.push_toArray, List.append_toArray, List.nil_append, List.cons_append]
 gi_wp2
 gi_loopw [8] (fun i wr => ∃ k : Nat, k <= its.length /\ i = .int .i64 k /\ J (its.attach.take k) wr /\ Below n₀ W wr)
  (fun i _ => its.length - (intOf i).toNat)
 case atStart => exact ⟨0, Nat.zero_le _, rfl, by simpa using h0, Below.refl _ _⟩
 case round =>
  obtain ⟨k, hk, rfl, hJs, hnx⟩ := hrel
  have hsz := hnx.size
  by_cases hlt : k < its.length
  . have hin' : In wr b o its := fun j v hv => (hnx.cell (p := ⟨b, o + j, none⟩) hb).trans (hin j v hv)
    obtain ⟨c0, c1, c2, c3, c4⟩ := hin'.get k hlt
    have hY' := hY (its.attach.take k) ⟨its[k], List.getElem_mem hlt⟩ (wr.alloc (.cells (Qc4 its[k].off its[k].key its[k].text its[k].who its[k].time) 163)) (hJ _ _ _ hJs) (by simp; omega)
    have hnext : its.attach.take (k + 1) = its.attach.take k ++ [⟨its[k], List.getElem_mem hlt⟩] := by rw [take_next (by simpa using hlt)]; simp
    clear hY
    obtain ⟨fn, tmps, assign, body, hy, hR⟩ := hY'
    dsimp only [It.v] at hy
    gi_wp2
    refine hR.mono ?_
    rintro e W3 (⟨rfl, hJ3, hk3⟩ | ⟨rfl, hJx3⟩)
    . gi_wp2
      go_roundw
      case rel => exact ⟨k + 1, by omega, by simp, by rw [hnext]; exact hJ3, (hnx.alloc (by omega) _).trans hk3⟩
      case measure => simp [intOf]; omega
    . gi_wp2
      refine bodyPost_ret (results_none rfl _ _ _) rfl ?_
      exact ⟨⟨_, rfl⟩, .inr ⟨_, by rw [← hnext]; exact List.take_prefix _ _, hJx3⟩⟩
  . obtain rfl : k = its.length := by omega
    gi_wp2
    go_end0
    exact ⟨⟨_, rfl⟩, .inl ⟨_, rfl, by rw [List.take_of_length_le (by simp)] at hJs; exact hJs⟩⟩
theorem Qj3 (F : Fence) (n : Nat) (hf : F.fn 219) (hro : F.round = none) (l Bs cap : Nat) (A : Option Addr) {α : Type} (J : List α -> World -> Prop) (W : World) (hBs : W.cell? ⟨Bs, 2, none⟩ = some (.slice A 0 cap)) (h0 : J [] W) :
 CallsIn F n Tryz.prog 219 #[.func (.yield l) #[] #[], .pointer (some ⟨Bs, 0, none⟩)] W fun e W' => (∃ v, e = .returned v) /\ J [] W' := by
 refine callsIn_of_wp Tryz.func219 rfl hf ?_ hro
 simp only [Tryz.ntmps219]
 simp only [List.size_toArray, List.length_cons, List.length_nil, Nat.reduceAdd, Nat.reduceSub, Array.replicate_succ, Array.replicate_zero, List.push_toArray, List.append_toArray, List.nil_append, List.cons_append]
 gi_wp2
 gi_loopw [8] (fun i wr => i = .int .i64 0 /\ J [] wr) (fun _ _ => 0)
 case atStart => exact ⟨rfl, h0⟩
 case round =>
  obtain ⟨rfl, hJs⟩ := hrel
  gi_wp2
  go_end0
  exact ⟨⟨_, rfl⟩, hJs⟩
theorem told_in (F : Fence) (n : Nat) (hf : F.fn 196) (hro : F.round = none) (start next : Int) (A : Option Addr) (len cap : Nat) (w : World) :
 CallsIn F n Tryz.prog 196 #[.agg (Qay start next A len cap)] w fun e w' => e = .returned (.func (.func 219) #[] #[.pointer (some ⟨w.heap.size, 0, none⟩)]) /\ w' = w.alloc (.cells (Qay start next A len cap) 160) := by
 refine callsIn_of_wp Tryz.func196 rfl hf ?_ hro
 simp only [Tryz.ntmps196]
 simp only [List.size_toArray, List.length_cons, List.length_nil, Nat.reduceAdd, Nat.reduceSub, Array.replicate_succ, Array.replicate_zero, List.push_toArray, List.append_toArray, List.nil_append, List.cons_append]
 gi_wp2
 go_ret
 exact ⟨rfl, rfl⟩
theorem Ql6 {β : Type} {B : Nat} {J : β -> World -> Prop} (h : AbidesFrom B J) (pre : β) (W : World) (o : Obj) (hj : J pre W) : J pre (W.alloc o) :=
 h pre W _ none hj (World.grownBy_alloc W o none) (fun r e => by cases e)
theorem Qil (F : Fence) (n : Nat) (hf : F.fn 219) (hro : F.round = none) (hn : 1 <= n) (Bs n₀ cap : Nat) (A : Option Addr) (its : List It) (hl : its.length <= 2000000) (w : World) (hBs : Bs < w.heap.size) (hn₀ : n₀ <= w.heap.size)
 (hc : w.cell? ⟨Bs, 2, none⟩ = some (.slice A its.length cap)) (hA : its = [] ∨ ∃ b o, A = some ⟨b, o, none⟩ /\ b < n₀ /\ In w b o its) :
 SeqStopsK F n Tryz.prog 219 #[.pointer (some ⟨Bs, 0, none⟩)] (fun x : Of its => #[x.1.v]) (Below n₀) (fun ys => vals ys = its) (fun pre => vals pre <+: its) its.length w := fun l J Jx W hW hJ _ hY h0 => by
 have hc' := (hW.cell (p := ⟨Bs, 2, none⟩) hBs).trans hc
 rcases hA with rfl | ⟨b, o, rfl, hb, hin⟩
 . exact (Qj3 F n hf hro l Bs cap A J W hc' h0).mono fun e W' ⟨he, hj⟩ => ⟨he, .inl ⟨_, rfl, hj⟩⟩
 . refine (told1_in F n hf hro hn l Bs n₀ b o cap its hl hb J Jx (fun pre W o hj => Ql6 hJ pre W o hj) hY W (Nat.le_trans hn₀ hW.size) hc' (fun j v hv => (hW.cell (p := ⟨b, o + j, none⟩) (Nat.lt_of_lt_of_le hb hn₀)).trans (hin j v hv)) h0).mono ?_
   rintro e W' ⟨he, ⟨ys, rfl, hj⟩ | ⟨pre, hp, hj⟩⟩
   . exact ⟨he, .inl ⟨_, Qgs its, hj⟩⟩
   . exact ⟨he, .inr ⟨_, by have := vals_pre hp; rwa [Qgs] at this, hj⟩⟩
def Blk (W : World) (B : Nat) (t : TypeId) (vs : Array Value) : Prop := W.heap[B]? = some (.cells vs t (0, 0))
theorem Blk.lt {W : World} {B : Nat} {t : TypeId} {vs : Array Value} (h : Blk W B t vs) : B < W.heap.size := (Array.getElem?_eq_some_iff.1 h).1
theorem Blk.cell {W : World} {B : Nat} {t : TypeId} {vs : Array Value} (h : Blk W B t vs) {i : Nat} {v : Value} (hv : vs[i]? = some v) : W.cell? ⟨B, i, none⟩ = some v := by simp [World.cell?, show W.heap[B]? = _ from h, hv]
theorem Blk.new (W : World) (t : TypeId) (vs : Array Value) : Blk (W.alloc (.cells vs t)) W.heap.size t vs := World.alloc_heap_new W _
theorem Blk.kept {W W' : World} {row : Option Nat} {B : Nat} {t : TypeId} {vs : Array Value} (h : Blk W B t vs) (hg : W.grownBy W' row) (hne : some B ≠ row) : Blk W' B t vs := (hg.block B h.lt hne).trans h
theorem Blk.alloc {W : World} {B : Nat} {t : TypeId} {vs : Array Value} (h : Blk W B t vs) (o : Obj) : Blk (W.alloc o) B t vs := h.kept (World.grownBy_alloc W o none) (by simp)
theorem Blk.other {W : World} {B B' : Nat} {t : TypeId} {vs : Array Value} (h : Blk W B t vs) (hne : B ≠ B') (i : Nat) (u : Value) : Blk (W.setCell ⟨B', i, none⟩ u) B t vs := by
 show (W.heap.modify B' _)[B]? = _
 rw [Array.getElem?_modify, if_neg (Ne.symm hne)]; exact h
theorem Blk.below {W W' : World} {n : Nat} {B : Nat} {t : TypeId} {vs : Array Value} (h : Blk W B t vs) (hb : Below n W W') (hn : B < n) : Blk W' B t vs := (hb.block B hn).trans h
theorem blk_own {β : Type} (B : Nat) (t : TypeId) (f : β -> Array Value) : Own (fun s W => Blk W B t (f s)) := fun s X Y row hs hg hrow =>
 hs.kept hg (fun e' => by obtain ⟨o, ho, hc⟩ := hrow B e'.symm; rw [show X.heap[B]? = _ from hs] at ho; cases ho; cases hc)
end Go.Proofs.YtenhcjkkpnlbeaaGreatDoor.Items
namespace Go.Proofs.YtenhcjkkpnlbeaaGreatDoor.Items
open ChangeShapes WideShapes ChangeAt RowKit Base
def Qhy (k t : ByteArray) (who time : Int) : Bool := textB k && textB t && inB who 0 3 && inB time 0 100000
def Qel (x : It) : Bool := Qhy x.key x.text x.who x.time
theorem four (p q r s : Bool) : p = false ∨ (p = true /\ q = false) ∨ (p = true /\ q = true /\ r = false) ∨ (p = true /\ q = true /\ r = true /\ s = false) ∨ (p = true /\ q = true /\ r = true /\ s = true) := by
 cases p<;>cases q<;>cases r<;>cases s<;>simp
theorem Qj8 (off who time : Int) (k t : ByteArray) (hk : k.size <= 9223372036854775807) (ht : t.size <= 9223372036854775807) (w : World) :
 Calls Tryz.prog 151 #[.agg (Qc4 off k t who time)] w fun e w' => e = .returned (.bool (Qhy k t who time)) /\ Below w.heap.size w w' := by
 rcases four (textB k) (textB t) (inB who 0 3) (inB time 0 100000) with h1 | ⟨h1, h2⟩ | ⟨h1, h2, h3⟩ | ⟨h1, h2, h3, h4⟩ | ⟨h1, h2, h3, h4⟩
 all_goals
  go_enter Tryz.func151, Tryz.ntmps151
  have q1 : w.heap.size < w.heap.size + 1 := Nat.lt_succ_self _
  go_wp2_with (first
   | (go_at_call 11; refine (in_any _ _ _ _).mono ?_; rintro e w' ⟨rfl, rfl⟩)
   | (go_at_call_of 152 (Value.string k); refine (specText_any k hk _).mono ?_; rintro e w1 ⟨rfl, g1⟩; obtain ⟨c1, f1⟩ := Qax g1; have s1 := g1.size; try simp at s1; have q1 : w.heap.size < w1.heap.size := by omega)
   | (go_at_call_of 152 (Value.string t); refine (specText_any t ht _).mono ?_; rintro e w1 ⟨rfl, g1⟩; obtain ⟨c1, f1⟩ := Qax g1; have s1 := g1.size; try simp at s1; have q1 : w.heap.size < w1.heap.size := by omega))
  go_ret
  refine ⟨by simp [Qhy, *], ?_⟩
  repeat (first | exact Below.refl _ _ | refine via0 (by assumption) ?_ | refine Below.drew ?_ | refine Qab ?_ _)
def chain (start nb : Int) : Option Int -> List It -> Bool
  | _, [] => true
  | p, x :: l => Qel x && inB x.off start nb && (match p with | none => true | some o => decide (o < x.off)) && chain start nb (some x.off) l
def prevO (l : List It) (n : Nat) : Option Int := match n with
  | 0 => none
  | p + 1 => (l[p]?).map (·.off)
def Qa1 (start nb : Int) (l : List It) (n : Nat) : Bool := chain start nb (prevO l n) (l.drop n)
theorem Qjv {start nb : Int} {l : List It} {n : Nat} (h : l.length <= n) : Qa1 start nb l n = true := by
 unfold Qa1; rw [List.drop_eq_nil_of_le h]; rfl
def ordB (l : List It) (n : Nat) (x : Int) : Bool := match prevO l n with
  | none => true
  | some o => decide (o < x)
theorem Qij {start nb : Int} {l : List It} {n : Nat} (h : n < l.length) :
 Qa1 start nb l n = (Qel l[n] && inB l[n].off start nb && ordB l n l[n].off && Qa1 start nb l (n + 1)) := by
 have e2 : prevO l (n + 1) = some l[n].off := by simp [prevO, List.getElem?_eq_getElem h]
 unfold Qa1 ordB
 rw [e2, List.drop_eq_getElem_cons h]
 cases prevO l n<;>rfl
theorem ordB_zero (l : List It) (x : Int) : ordB l 0 x = true := rfl
theorem ordB_succ {l : List It} {p : Nat} (h : p < l.length) (x : Int) : ordB l (p + 1) x = decide (l[p].off < x) := by
 simp [ordB, prevO, List.getElem?_eq_getElem h]
def rowB (start next : Int) (l : List It) : Bool := Qa1 start (next - 1) l 0 && inB start 0 next && decide (next <= 100000) && decide (l.length <= 80)
theorem Qdl (v : Bool) (off who time : Int) (k t : ByteArray) (hk : k.size <= 9223372036854775807) (ht : t.size <= 9223372036854775807) (h : Hid (Qhy k t who time = v)) (w : World) :
 Calls Tryz.prog 151 #[.agg (Qc4 off k t who time)] w fun e w' => e = .returned (.bool v) /\ Below w.heap.size w w' := by
 have := Qj8 off who time k t hk ht w
 rw [h.out] at this
 exact this
theorem in_is (v : Bool) (x lo hi : Int) (h : Hid (inB x lo hi = v)) (w : World) :
 Calls Tryz.prog 11 (Qbt x lo hi) w fun e w' => e = .returned (.bool v) /\ w' = w := by
 have := in_any x lo hi w
 rw [h.out] at this
 exact this
end Go.Proofs.YtenhcjkkpnlbeaaGreatDoor.Items
namespace Go.Proofs.YtenhcjkkpnlbeaaGreatDoor.Items
open ChangeShapes WideShapes ChangeAt RowKit Shelf Base
theorem Qgd (off who time : Int) (k t : ByteArray) (hk : k.size <= 9223372036854775807) (ht : t.size <= 9223372036854775807) (w : World) :
 Calls Tryz.prog 168 #[.agg (Qc4 off k t who time)] w fun e w' => e = .returned (.bool (Qhy k t who time)) /\ Below w.heap.size w w' := by
 rcases four (textB k) (textB t) (inB who 0 3) (inB time 0 100000) with h1 | ⟨h1, h2⟩ | ⟨h1, h2, h3⟩ | ⟨h1, h2, h3, h4⟩ | ⟨h1, h2, h3, h4⟩
 all_goals
  go_enter Tryz.func168, Tryz.ntmps168
  have q1 : w.heap.size < w.heap.size + 1 := Nat.lt_succ_self _
  go_wp2_with (first
   | (go_at_call 76; refine (within_any _ _ _ _).mono ?_; rintro e w' ⟨rfl, rfl⟩)
   | (go_at_call_of 96 (Value.string k); refine (implText_any k hk _).mono ?_; rintro e w1 ⟨rfl, g1⟩; obtain ⟨c1, f1⟩ := Qax g1; have s1 := g1.size; try simp at s1; have q1 : w.heap.size < w1.heap.size := by omega)
   | (go_at_call_of 96 (Value.string t); refine (implText_any t ht _).mono ?_; rintro e w1 ⟨rfl, g1⟩; obtain ⟨c1, f1⟩ := Qax g1; have s1 := g1.size; try simp at s1; have q1 : w.heap.size < w1.heap.size := by omega))
  go_ret
  refine ⟨by simp [Qhy, *], ?_⟩
  repeat (first | exact Below.refl _ _ | refine via0 (by assumption) ?_ | refine Below.drew ?_ | refine Qab ?_ _)
attribute [local go_sem] Oper.semAt_some
def Qdh (next : Int) (s : Option Int) (x : It) : Option Int := s.bind fun m => if x.off < m ∨ next <= x.off then none else some (wrap64 (x.off + 1))
def ascF (next start : Int) (l : List It) : Option Int := l.foldl (Qdh next) (some start)
theorem ascF_snoc (next start : Int) (l : List It) (x : It) : ascF next start (l ++ [x]) = Qdh next (ascF next start l) x := by simp [ascF]
theorem ascF_none (next start : Int) {p l : List It} (h : p <+: l) (hn : ascF next start p = none) : ascF next start l = none := by
 obtain ⟨r, rfl⟩ := h
 unfold ascF at hn ⊢
 rw [List.foldl_append, hn]
 clear hn
 induction r with
 | nil => rfl
 | cons a r ih => exact ih
theorem Blk.item {W : World} {B : Nat} {t : TypeId} {a b c d e : Value} (h : Blk W B t #[a, b, c, d, e]) :
 W.cell? ⟨B, 0, none⟩ = some a /\ W.cell? ⟨B, 1, none⟩ = some b /\ W.cell? ⟨B, 2, none⟩ = some c /\ W.cell? ⟨B, 3, none⟩ = some d /\ W.cell? ⟨B, 4, none⟩ = some e :=
 ⟨h.cell rfl, h.cell rfl, h.cell rfl, h.cell rfl, h.cell rfl⟩
theorem Blk.row {W : World} {B : Nat} {t : TypeId} {a b c : Value} (h : Blk W B t #[a, b, c]) :
 W.cell? ⟨B, 0, none⟩ = some a /\ W.cell? ⟨B, 1, none⟩ = some b /\ W.cell? ⟨B, 2, none⟩ = some c :=
 ⟨h.cell rfl, h.cell rfl, h.cell rfl⟩
theorem Blk.one {W : World} {B : Nat} {t : TypeId} {a : Value} (h : Blk W B t #[a]) : W.cell? ⟨B, 0, none⟩ = some a /\ W.frozen? ⟨B, 0, none⟩ = false :=
 ⟨h.cell rfl, (show Boxed W B t a from h).frozen⟩
theorem Blk.set {W : World} {B : Nat} {t : TypeId} {a : Value} (h : Blk W B t #[a]) (v : Value) : Blk (W.setCell ⟨B, 0, none⟩ v) B t #[v] := (show Boxed W B t a from h).set v
theorem number_of (x : It) (w : World) : (method 470 163 (.agg (Qc4 x.off x.key x.text x.who x.time)) "loop.example/g00393/impl.number").run Tryz.prog w = .ok (293, .agg (Qc4 x.off x.key x.text x.who x.time)) w := by kernel_rfl
theorem Qfy (x : It) (w : World) : Calls Tryz.prog 293 #[.agg (Qc4 x.off x.key x.text x.who x.time)] w
 fun e w' => e = .returned (.int .i64 x.off) /\ w' = w.alloc (.cells (Qc4 x.off x.key x.text x.who x.time) 163) := by
 go_enter Tryz.func293, Tryz.ntmps293
 go_wp2
 go_ret
 exact ⟨rfl, rfl⟩
theorem Qcn {B C : Nat} {t : TypeId} {vs : Array Value} {X Y : World} {row : Option Nat} (h : Blk X C t vs) (hg : X.grownBy Y row) (hr : ∀ r, row = some r -> B <= r /\ ∃ o : Obj, X.heap[r]? = some o /\ o.isCells = false) : Blk Y C t vs :=
 blk_own C t (fun _ : Unit => vs) () X Y row h hg (fun r e => (hr r e).2)
theorem Qnf (start next : Int) (A : Option Addr) (cap : Nat) (l : List It) (hl : l.length <= 2000000) (w : World) (hA : l = [] ∨ ∃ b o, A = some ⟨b, o, none⟩ /\ b < w.heap.size /\ In w b o l) :
 Calls Tryz.prog 166 #[.agg (Qay start next A l.length cap)] w fun e w' => e = .returned (.bool (ascF next start l).isSome) /\ Below w.heap.size w w' := by
 refine (callsIn_wide (n := 9)).1 ?_
 refine callsIn_of_wp_marks Tryz.func166 rfl trivial ?_ rfl
 simp only [Tryz.ntmps166]
 simp only [List.size_toArray, List.length_cons, List.length_nil, Nat.reduceAdd, Nat.reduceSub, Array.replicate_succ, Array.replicate_zero, List.push_toArray, List.append_toArray, List.nil_append, List.cons_append]
 gi_wp2_with (refine ⟨trivial, ?_⟩; gi_at_call 196; refine (told_in Fence.wide _ trivial rfl _ _ _ _ _ _).mono ?_; rintro e w' ⟨rfl, rfl⟩)
 have b0 := (((Blk.new w 160 (Qay start next A l.length cap)).alloc (.cells #[.bool false] 4)).alloc (.cells #[.int .i64 start] 3)).alloc (.cells (Qay start next A l.length cap) 160)
 have b1 := ((Blk.new (w.alloc (.cells (Qay start next A l.length cap) 160)) 4 #[.bool false]).alloc (.cells #[.int .i64 start] 3)).alloc (.cells (Qay start next A l.length cap) 160)
 have b2 := (Blk.new ((w.alloc (.cells (Qay start next A l.length cap) 160)).alloc (.cells #[.bool false] 4)) 3 #[.int .i64 start]).alloc (.cells (Qay start next A l.length cap) 160)
 have b3 := Blk.new (((w.alloc (.cells (Qay start next A l.length cap) 160)).alloc (.cells #[.bool false] 4)).alloc (.cells #[.int .i64 start] 3)) 160 (Qay start next A l.length cap)
 have hB0 : Below w.heap.size w ((((w.alloc (.cells (Qay start next A l.length cap) 160)).alloc (.cells #[.bool false] 4)).alloc (.cells #[.int .i64 start] 3)).alloc (.cells (Qay start next A l.length cap) 160)) := ((((Below.refl _ w).alloc (Nat.le_refl _) _).alloc (by simp) _).alloc (by simp; omega) _).alloc (by simp; omega) _
 have hsz : ((((w.alloc (.cells (Qay start next A l.length cap) 160)).alloc (.cells #[.bool false] 4)).alloc (.cells #[.int .i64 start] 3)).alloc (.cells (Qay start next A l.length cap) 160)).heap.size = w.heap.size + 4 := by simp
 simp only [World.size_alloc] at b1 b2 b3
 generalize ((((w.alloc (.cells (Qay start next A l.length cap) 160)).alloc (.cells #[.bool false] 4)).alloc (.cells #[.int .i64 start] 3)).alloc (.cells (Qay start next A l.length cap) 160)) = W0 at b0 b1 b2 b3 hB0 hsz ⊢
 have hA' : l = [] ∨ ∃ b o, A = some ⟨b, o, none⟩ /\ b < w.heap.size /\ In W0 b o l := hA.imp id fun ⟨b, o, e, hb, hi⟩ => ⟨b, o, e, hb, hi.below hb hB0⟩
 refine wpIn_rangeFunc_ownH rfl (by omega) (gf := 219) (lb := #[.pointer (some ⟨w.heap.size + 1 + 1 + 1, 0, none⟩)]) rfl trivial (enters_of Tryz.func219 (by kernel_rfl) rfl)
  (Qil Fence.wide _ trivial rfl (by omega) (w.heap.size + 1 + 1 + 1) w.heap.size cap A l hl W0 (by omega) (by omega) (b3.cell rfl) hA') belowK_t (belowK_b (by omega)) (Below.refl _ _) (fun _ => rfl)
  (fun pre W => (∃ m, ascF next start (vals pre) = some m /\ Blk W (w.heap.size + 1 + 1) 3 #[.int .i64 m]) /\ Blk W (w.heap.size + 1) 4 #[.bool false] /\ Blk W w.heap.size 160 (Qay start next A l.length cap) /\ Below w.heap.size w W)
  (fun c pre W => c = .ret /\ ascF next start (vals pre) = none /\ Blk W (w.heap.size + 1) 4 #[.bool false] /\ Below w.heap.size w W)
  (fun s X Y row hs hg hr => by
   obtain ⟨⟨m, em, bL⟩, bR, bW, hB⟩ := hs
   exact ⟨⟨m, em, Qcn bL hg hr⟩, Qcn bR hg hr, Qcn bW hg hr, ownFrom_below (β := Unit) (Nat.le_refl _) (by omega) () X Y row hB hg hr⟩)
  (fun c s X Y row hs hg hr => by
   obtain ⟨hc, em, bR, hB⟩ := hs
   exact ⟨hc, em, Qcn bR hg hr, ownFrom_below (β := Unit) (Nat.le_refl _) (by omega) () X Y row hB hg hr⟩)
  ⟨⟨start, rfl, b2⟩, b1, b0, hB0⟩
  (fun x a' W => ∃ Bx, w.heap.size + 1 + 1 < Bx /\ Blk W Bx 163 (Qc4 x.1.off x.1.key x.1.text x.1.who x.1.time) /\ a' = { tmps := #[.agg (Qay start next A l.length cap), .pointer (some ⟨w.heap.size, 0, none⟩), .pointer (some ⟨w.heap.size + 1, 0, none⟩), .pointer (some ⟨w.heap.size + 1 + 1, 0, none⟩), .pointer (some ⟨Bx, 0, none⟩), undef, .pointer (some ⟨w.heap.size, 0, none⟩), .int .i64 start, .agg (Qay start next A l.length cap), .func (.func 219) #[] #[.pointer (some ⟨w.heap.size + 1 + 1 + 1, 0, none⟩)], x.1.v, undef, undef, undef, undef, undef, undef, undef, undef, undef, undef, undef, undef, undef, undef], defers := [] })
  (fun x a' _ X Y row hs hg hr => by obtain ⟨Bx, h1, h2, h3⟩ := hs; exact ⟨Bx, h1, Qcn h2 hg hr, h3⟩)
  ?assign ?body ?done ?stop
 case assign =>
  rintro l' pre x W K ⟨⟨m, em, bL⟩, bR, bW, hB⟩ hK
  dsimp only [It.v] at hK ⊢
  gi_wp2
  exact hK _ _ ((KeepsOthers.alloc _ _).from _) ((Below.refl _ W).alloc hB.size _) ⟨⟨m, em, bL.alloc _⟩, bR.alloc _, bW.alloc _, hB.alloc hB.size _⟩ ⟨W.heap.size, bL.lt, Blk.new W _ _, rfl⟩
 case body =>
  rintro l' pre x a' W hl' hr' ⟨⟨m, em, bL⟩, bR, bW, hB⟩ ⟨Bx, hBx, bX, rfl⟩ hlt
  obtain ⟨x0, x1, x2, x3, x4⟩ := bX.item
  obtain ⟨cS, cN, cI⟩ := bW.row
  obtain ⟨cL, fL⟩ := bL.one
  obtain ⟨cR, fR⟩ := bR.one
  have hm := number_of x.1
  have hsW := hB.size
  have q0 := bW.lt
  have q1 := bR.lt
  have q2 := bL.lt
  have qx := bX.lt
  dsimp only [It.v]
  have hstep := ascF_snoc next start (vals pre) x.1
  rw [em, ← Qj0] at hstep
  have Hs : Hid (ascF next start (vals (pre ++ [x])) = Qdh next (some m) x.1) := hstep
  clear hstep
  by_cases h1 : x.1.off < m
  . gi_wp2_with (refine ⟨trivial, ?_⟩; gi_at_call 293; refine (CallsIn.inRound l' (callsIn_wide.2 (Qfy x.1 _))).mono ?_; rintro e w' ⟨rfl, rfl⟩)
    exact ⟨((KeepsOthers.setCell _ _ _).trans (KeepsOthers.alloc _ _)).from _, rfl, by rw [Hs.out]; simp [Qdh, h1], (bR.set _).alloc _, (hB.setCell (p := ⟨w.heap.size + 1, 0, none⟩) (by simp) _).alloc (by simpa using hsW) _⟩
  . by_cases h2 : next <= x.1.off
    . gi_wp2_with (refine ⟨trivial, ?_⟩; gi_at_call 293; refine (CallsIn.inRound l' (callsIn_wide.2 (Qfy x.1 _))).mono ?_; rintro e w' ⟨rfl, rfl⟩)
      exact ⟨((KeepsOthers.setCell _ _ _).trans (KeepsOthers.alloc _ _)).from _, rfl, by rw [Hs.out]; simp [Qdh, h2], (bR.set _).alloc _, (hB.setCell (p := ⟨w.heap.size + 1, 0, none⟩) (by simp) _).alloc (by simpa using hsW) _⟩
    . gi_wp2_with (refine ⟨trivial, ?_⟩; gi_at_call 293; refine (CallsIn.inRound l' (callsIn_wide.2 (Qfy x.1 _))).mono ?_; rintro e w' ⟨rfl, rfl⟩)
      exact ⟨((KeepsOthers.setCell _ _ _).trans (KeepsOthers.alloc _ _)).from _, ((Below.refl _ W).setCell (p := ⟨w.heap.size + 1 + 1, 0, none⟩) (by simp; omega) _).alloc (by simpa using hsW) _,
       ⟨_, by rw [Hs.out]; simp [Qdh, h1, h2], (bL.set _).alloc _⟩, (bR.other (by omega) _ _).alloc _, (bW.other (by omega) _ _).alloc _, (hB.setCell (p := ⟨w.heap.size + 1 + 1, 0, none⟩) (by simp; omega) _).alloc (by simpa using hsW) _⟩
 case done =>
  rintro D ys W hD hys ⟨⟨m, em, bL⟩, bR, bW, hB⟩ hK
  obtain ⟨cR, fR⟩ := bR.one
  gi_wp2
  have hK' := (KeepsOthers.setCell W ⟨w.heap.size + 1, 0, none⟩ (.bool true)).same D _ hK rfl
  refine ⟨by simp, .inl ⟨_, _, rfl, run_takeDeferred hK', ?_⟩⟩
  have hc5 := cell_kept (bR.set (.bool true)).one.1 (grownBy_putObj' _ D (.deferred none)) (fun r e => by cases e; exact ⟨_, hK', rfl⟩)
  refine ⟨.bool true, ?_, by rw [hys] at em; rw [em]; rfl, (hB.setCell (p := ⟨w.heap.size + 1, 0, none⟩) (by simp) _).trans (belowK_b (w := w) (Nat.le_refl _) _ D _ _ (by omega) hK' rfl rfl)⟩
  simp [results, Tryz.f166, go_sem, hc5]
 case stop =>
  rintro D c pre W hD hpre ⟨rfl, em, bR, hB⟩ hK
  gi_wp2
  refine ⟨by simp, .inl ⟨_, _, rfl, run_takeDeferred hK, ?_⟩⟩
  have hc5 := cell_kept bR.one.1 (grownBy_putObj' _ D (.deferred none)) (fun r e => by cases e; exact ⟨_, hK, rfl⟩)
  refine ⟨.bool false, ?_, by rw [ascF_none next start hpre em]; rfl, hB.trans (belowK_b (w := w) (Nat.le_refl _) W D _ _ (by omega) hK rfl rfl)⟩
  simp [results, Tryz.f166, go_sem, hc5]
end Go.Proofs.YtenhcjkkpnlbeaaGreatDoor.Items
namespace Go.Proofs.YtenhcjkkpnlbeaaGreatDoor.Items
open ChangeShapes WideShapes ChangeAt RowKit Shelf Base
attribute [local go_sem] Oper.semAt_some
theorem Qg9 {W W' : World} (h : Below W.heap.size W W') : KeepsOthers W W' :=
 ⟨h.size, fun k o hk _ => (h.block k (Array.getElem?_eq_some_iff.1 hk).1).trans hk⟩
theorem Qm0 (start next : Int) (A : Option Addr) (cap : Nat) (l : List It) (hl : l.length <= 2000000) (hs : ∀ x ∈ l, x.key.size <= 9223372036854775807 /\ x.text.size <= 9223372036854775807) (w : World) (hA : l = [] ∨ ∃ b o, A = some ⟨b, o, none⟩ /\ b < w.heap.size /\ In w b o l) :
 Calls Tryz.prog 167 #[.agg (Qay start next A l.length cap), .func (.func 168) #[] #[]] w fun e w' => e = .returned (.bool (l.all Qel)) /\ Below w.heap.size w w' := by
 refine (callsIn_wide (n := 9)).1 ?_
 refine callsIn_of_wp_marks Tryz.func167 rfl trivial ?_ rfl
 simp only [Tryz.ntmps167]
 simp only [List.size_toArray, List.length_cons, List.length_nil, Nat.reduceAdd, Nat.reduceSub, Array.replicate_succ, Array.replicate_zero, List.push_toArray, List.append_toArray, List.nil_append, List.cons_append]
 gi_wp2_with (refine ⟨trivial, ?_⟩; gi_at_call 196; refine (told_in Fence.wide _ trivial rfl _ _ _ _ _ _).mono ?_; rintro e w' ⟨rfl, rfl⟩)
 have b1 := ((Blk.new (w.alloc (.cells (Qay start next A l.length cap) 160)) 191 #[.func (.func 168) #[] #[]]).alloc (.cells #[.bool false] 4)).alloc (.cells (Qay start next A l.length cap) 160)
 have b2 := (Blk.new ((w.alloc (.cells (Qay start next A l.length cap) 160)).alloc (.cells #[.func (.func 168) #[] #[]] 191)) 4 #[.bool false]).alloc (.cells (Qay start next A l.length cap) 160)
 have b3 := Blk.new (((w.alloc (.cells (Qay start next A l.length cap) 160)).alloc (.cells #[.func (.func 168) #[] #[]] 191)).alloc (.cells #[.bool false] 4)) 160 (Qay start next A l.length cap)
 have hB0 : Below w.heap.size w ((((w.alloc (.cells (Qay start next A l.length cap) 160)).alloc (.cells #[.func (.func 168) #[] #[]] 191)).alloc (.cells #[.bool false] 4)).alloc (.cells (Qay start next A l.length cap) 160)) := ((((Below.refl _ w).alloc (Nat.le_refl _) _).alloc (by simp) _).alloc (by simp; omega) _).alloc (by simp; omega) _
 have hsz : ((((w.alloc (.cells (Qay start next A l.length cap) 160)).alloc (.cells #[.func (.func 168) #[] #[]] 191)).alloc (.cells #[.bool false] 4)).alloc (.cells (Qay start next A l.length cap) 160)).heap.size = w.heap.size + 4 := by simp
 simp only [World.size_alloc] at b1 b2 b3
 generalize ((((w.alloc (.cells (Qay start next A l.length cap) 160)).alloc (.cells #[.func (.func 168) #[] #[]] 191)).alloc (.cells #[.bool false] 4)).alloc (.cells (Qay start next A l.length cap) 160)) = W0 at b1 b2 b3 hB0 hsz ⊢
 have hA' : l = [] ∨ ∃ b o, A = some ⟨b, o, none⟩ /\ b < w.heap.size /\ In W0 b o l := hA.imp id fun ⟨b, o, e, hb, hi⟩ => ⟨b, o, e, hb, hi.below hb hB0⟩
 refine wpIn_rangeFunc_ownH rfl (by omega) (gf := 219) (lb := #[.pointer (some ⟨w.heap.size + 1 + 1 + 1, 0, none⟩)]) rfl trivial (enters_of Tryz.func219 (by kernel_rfl) rfl)
  (Qil Fence.wide _ trivial rfl (by omega) (w.heap.size + 1 + 1 + 1) w.heap.size cap A l hl W0 (by omega) (by omega) (b3.cell rfl) hA') belowK_t (belowK_b (by omega)) (Below.refl _ _) (fun _ => rfl)
  (fun pre W => (vals pre).all Qel = true /\ Blk W (w.heap.size + 1 + 1) 4 #[.bool false] /\ Blk W (w.heap.size + 1) 191 #[.func (.func 168) #[] #[]] /\ Below w.heap.size w W)
  (fun c pre W => c = .ret /\ (vals pre).all Qel = false /\ Blk W (w.heap.size + 1 + 1) 4 #[.bool false] /\ Below w.heap.size w W)
  (fun s X Y row hs hg hr => by
   obtain ⟨em, bR, bF, hB⟩ := hs
   exact ⟨em, Qcn bR hg hr, Qcn bF hg hr, ownFrom_below (β := Unit) (Nat.le_refl _) (by omega) () X Y row hB hg hr⟩)
  (fun c s X Y row hs hg hr => by
   obtain ⟨hc, em, bR, hB⟩ := hs
   exact ⟨hc, em, Qcn bR hg hr, ownFrom_below (β := Unit) (Nat.le_refl _) (by omega) () X Y row hB hg hr⟩)
  ⟨rfl, b2, b1, hB0⟩
  (fun x a' W => ∃ Bx, w.heap.size + 1 + 1 < Bx /\ Blk W Bx 163 (Qc4 x.1.off x.1.key x.1.text x.1.who x.1.time) /\ a' = { tmps := #[.agg (Qay start next A l.length cap), .func (.func 168) #[] #[], .pointer (some ⟨w.heap.size, 0, none⟩), .pointer (some ⟨w.heap.size + 1, 0, none⟩), .pointer (some ⟨w.heap.size + 1 + 1, 0, none⟩), .pointer (some ⟨Bx, 0, none⟩), .agg (Qay start next A l.length cap), .func (.func 219) #[] #[.pointer (some ⟨w.heap.size + 1 + 1 + 1, 0, none⟩)], x.1.v, undef, undef, undef, undef], defers := [] })
  (fun x a' _ X Y row hs hg hr => by obtain ⟨Bx, h1, h2, h3⟩ := hs; exact ⟨Bx, h1, Qcn h2 hg hr, h3⟩)
  ?assign ?body ?done ?stop
 case assign =>
  rintro l' pre x W K ⟨em, bR, bF, hB⟩ hK
  dsimp only [It.v] at hK ⊢
  gi_wp2
  exact hK _ _ ((KeepsOthers.alloc _ _).from _) ((Below.refl _ W).alloc hB.size _) ⟨em, bR.alloc _, bF.alloc _, hB.alloc hB.size _⟩ ⟨W.heap.size, bR.lt, Blk.new W _ _, rfl⟩
 case body =>
  rintro l' pre x a' W hl' hr' ⟨em, bR, bF, hB⟩ ⟨Bx, hBx, bX, rfl⟩ hlt
  obtain ⟨x0, x1, x2, x3, x4⟩ := bX.item
  obtain ⟨cF, fF⟩ := bF.one
  obtain ⟨cR, fR⟩ := bR.one
  have hsW := hB.size
  have q1 := bR.lt
  have q2 := bF.lt
  have qx := bX.lt
  obtain ⟨hk, ht⟩ := hs x.1 x.2
  dsimp only [It.v]
  have Hs : Hid ((vals (pre ++ [x])).all Qel = Qhy x.1.key x.1.text x.1.who x.1.time) := by show (vals (pre ++ [x])).all Qel = _; rw [Qj0, List.all_append, em]; simp [Qel]
  cases h1 : Qhy x.1.key x.1.text x.1.who x.1.time
  . gi_wp2_with (refine ⟨trivial, ?_⟩; gi_at_call 168; refine (CallsIn.inRound l' (callsIn_wide.2 (Qgd _ _ _ _ _ hk ht _))).mono ?_; rintro e w1 ⟨rfl, g1⟩; have bR1 := bR.below g1 q1; obtain ⟨cR1, fR1⟩ := bR1.one; rw [h1])
    exact ⟨((Qg9 g1).trans (KeepsOthers.setCell _ _ _)).from _, rfl, Hs.out.trans h1, bR1.set _, (hB.trans (g1.mono hsW)).setCell (p := ⟨w.heap.size + 1 + 1, 0, none⟩) (by simp; omega) _⟩
  . gi_wp2_with (refine ⟨trivial, ?_⟩; gi_at_call 168; refine (CallsIn.inRound l' (callsIn_wide.2 (Qgd _ _ _ _ _ hk ht _))).mono ?_; rintro e w1 ⟨rfl, g1⟩; have bR1 := bR.below g1 q1; obtain ⟨cR1, fR1⟩ := bR1.one; rw [h1])
    exact ⟨(Qg9 g1).from _, g1.mono hsW, Hs.out.trans h1, bR1, bF.below g1 q2, hB.trans (g1.mono hsW)⟩
 case done =>
  rintro D ys W hD hys ⟨em, bR, bF, hB⟩ hK
  obtain ⟨cR, fR⟩ := bR.one
  gi_wp2
  have hK' := (KeepsOthers.setCell W ⟨w.heap.size + 1 + 1, 0, none⟩ (.bool true)).same D _ hK rfl
  refine ⟨by simp, .inl ⟨_, _, rfl, run_takeDeferred hK', ?_⟩⟩
  have hc5 := cell_kept (bR.set (.bool true)).one.1 (grownBy_putObj' _ D (.deferred none)) (fun r e => by cases e; exact ⟨_, hK', rfl⟩)
  refine ⟨.bool true, ?_, by rw [hys] at em; rw [em], (hB.setCell (p := ⟨w.heap.size + 1 + 1, 0, none⟩) (by simp; omega) _).trans (belowK_b (w := w) (Nat.le_refl _) _ D _ _ (by omega) hK' rfl rfl)⟩
  simp [results, Tryz.f167, go_sem, hc5]
 case stop =>
  rintro D c pre W hD hpre ⟨rfl, em, bR, hB⟩ hK
  gi_wp2
  refine ⟨by simp, .inl ⟨_, _, rfl, run_takeDeferred hK, ?_⟩⟩
  have hc5 := cell_kept bR.one.1 (grownBy_putObj' _ D (.deferred none)) (fun r e => by cases e; exact ⟨_, hK, rfl⟩)
  have hall : l.all Qel = false := by obtain ⟨r, hr⟩ := hpre; rw [← hr, List.all_append, em]; rfl
  refine ⟨.bool false, ?_, by rw [hall], hB.trans (belowK_b (w := w) (Nat.le_refl _) W D _ _ (by omega) hK rfl rfl)⟩
  simp [results, Tryz.f167, go_sem, hc5]
theorem five (p q r s t : Bool) : p = false ∨ (p = true /\ q = false) ∨ (p = true /\ q = true /\ r = false) ∨ (p = true /\ q = true /\ r = true /\ s = false) ∨ (p = true /\ q = true /\ r = true /\ s = true /\ t = false) ∨ (p = true /\ q = true /\ r = true /\ s = true /\ t = true) := by
 cases p<;>cases q<;>cases r<;>cases s<;>cases t<;>simp
def okB (start next : Int) (l : List It) : Bool := inB next 0 100000 && inB start 0 next && decide ((l.length : Int) <= 80) && (ascF next start l).isSome && l.all Qel
theorem Qlk (start next : Int) (A : Option Addr) (cap : Nat) (l : List It) (hl : l.length <= 2000000) (hs : ∀ x ∈ l, x.key.size <= 9223372036854775807 /\ x.text.size <= 9223372036854775807) (w : World) (hA : l = [] ∨ ∃ b o, A = some ⟨b, o, none⟩ /\ b < w.heap.size /\ In w b o l) :
 Calls Tryz.prog 127 #[.agg (Qay start next A l.length cap)] w fun e w' => e = .returned (.bool (okB start next l)) /\ Below w.heap.size w w' := by
 have Hs : Hid (∀ x ∈ l, x.key.size <= 9223372036854775807 /\ x.text.size <= 9223372036854775807) := hs
 have HA : Hid (l = [] ∨ ∃ b o, A = some ⟨b, o, none⟩ /\ b < w.heap.size /\ In w b o l) := hA
 have hat : ∀ w1, Below w.heap.size w w1 -> (l = [] ∨ ∃ b o, A = some ⟨b, o, none⟩ /\ b < w1.heap.size /\ In w1 b o l) := fun w1 gB => hA.imp id fun ⟨b, o, e, hb, hi⟩ => ⟨b, o, e, Nat.lt_of_lt_of_le hb gB.size, hi.below hb gB⟩
 have Hat : Hid (∀ w1, Below w.heap.size w w1 -> (l = [] ∨ ∃ b o, A = some ⟨b, o, none⟩ /\ b < w1.heap.size /\ In w1 b o l)) := hat
 clear hA hs hat
 rcases five (inB next 0 100000) (inB start 0 next) (decide ((l.length : Int) <= 80)) (ascF next start l).isSome (l.all Qel) with h1 | ⟨h1, h2⟩ | ⟨h1, h2, h3⟩ | ⟨h1, h2, h3, h4⟩ | ⟨h1, h2, h3, h4, h5⟩ | ⟨h1, h2, h3, h4, h5⟩
 all_goals
  have hv : Hid (okB start next l = (inB next 0 100000 && inB start 0 next && decide ((l.length : Int) <= 80) && (ascF next start l).isSome && l.all Qel)) := rfl
  go_enter Tryz.func127, Tryz.ntmps127
  have q1 : w.heap.size < w.heap.size + 1 := Nat.lt_succ_self _
  go_wp2_with (first
   | (go_at_call 76; refine (within_any _ _ _ _).mono ?_; rintro e w' ⟨rfl, rfl⟩)
   | (go_at_call 166; refine (Qnf start next A cap l hl _ (Hat.out _ ((Below.refl _ w).alloc (Nat.le_refl _) _))).mono ?_; rintro e w1 ⟨rfl, g1⟩; obtain ⟨c1, f1⟩ := Qax g1; have s1 := g1.size; have gB : Below w.heap.size w w1 := via0 g1 ((Below.refl _ w).alloc (Nat.le_refl _) _); have q1 : w.heap.size < w1.heap.size := Nat.lt_of_lt_of_le (by simp) s1)
   | (go_at_call 167; go_loud (refine (Qm0 start next A cap l hl Hs.out _ (Hat.out _ (by assumption))).mono ?_; rintro e w2 ⟨rfl, g2⟩)))
  go_ret
  refine ⟨by rw [hv.out]; simp [*], ?_⟩
  repeat (first | exact Below.refl _ _ | refine via0 (by assumption) ?_ | refine Below.drew ?_ | refine Qab ?_ _)
theorem wrap_small {a : Int} (h1 : 0 <= a) (h2 : a <= 1000000) : wrap64 a = a := by unfold wrap64; omega
def ahead (p : Option Int) (x : Int) : Bool := match p with | none => true | some o => decide (o < x)
theorem Ql3 (start next : Int) (hn : next <= 100000) (hs : 0 <= start) : ∀ (l : List It) (p : Option Int) (m : Int), (p = none /\ m = start) ∨ (∃ o, p = some o /\ m = o + 1 /\ start <= o) ->
 ((l.foldl (Qdh next) (some m)).isSome && l.all Qel) = chain start (next - 1) p l
 | [], p, m, _ => rfl
 | x :: l, p, m, h => by
  have none_fold : ∀ r : List It, r.foldl (Qdh next) none = none := fun r => by induction r with | nil => rfl | cons a r ih => exact ih
  have ec : chain start (next - 1) p (x :: l) = (Qel x && inB x.off start (next - 1) && ahead p x.off && chain start (next - 1) (some x.off) l) := by cases p<;>rfl
  rw [List.foldl_cons, List.all_cons, ec]
  by_cases hc : x.off < m ∨ next <= x.off
  . have e1 : Qdh next (some m) x = none := by simp [Qdh, hc]
    rw [e1, none_fold]
    have e2 : (inB x.off start (next - 1) && ahead p x.off) = false := by
     rcases h with ⟨rfl, rfl⟩ | ⟨o, rfl, rfl, _⟩
     . simp [inB, ahead]; omega
     . simp [inB, ahead]; omega
    cases hi : Qel x<;>simp_all [Bool.and_assoc]
  . have e1 : Qdh next (some m) x = some (x.off + 1) := by
     have hw : wrap64 (x.off + 1) = x.off + 1 := wrap_small (by rcases h with ⟨rfl, rfl⟩ | ⟨o, rfl, rfl, _⟩<;>omega) (by omega)
     simp [Qdh, hc, hw]
    have e2 : inB x.off start (next - 1) = true := by
     rcases h with ⟨rfl, rfl⟩ | ⟨o, rfl, rfl, _⟩<;>simp [inB]<;>omega
    have e3 : ahead p x.off = true := by
     rcases h with ⟨rfl, rfl⟩ | ⟨o, rfl, rfl, _⟩
     . rfl
     . simp [ahead]; omega
    rw [e1, e2, e3, ← Ql3 start next hn hs l (some x.off) (x.off + 1) (.inr ⟨x.off, rfl, rfl, by rcases h with ⟨rfl, rfl⟩ | ⟨o, rfl, rfl, _⟩<;>omega⟩)]
    cases Qel x<;>simp
theorem okB_row (start next : Int) (l : List It) : okB start next l = rowB start next l := by
 unfold okB rowB
 by_cases h : (0 <= start /\ start <= next) /\ next <= 100000
 . have e := Ql3 start next h.2 h.1.1 l none start (.inl ⟨rfl, rfl⟩)
   have e1 : inB next 0 100000 = true := by simp [inB]; omega
   have e2 : inB start 0 next = true := by simp [inB]; omega
   have e3 : decide (next <= 100000) = true := by simp; omega
   have e4 : Qa1 start (next - 1) l 0 = chain start (next - 1) none l := rfl
   have e5 : decide ((l.length : Int) <= 80) = decide (l.length <= 80) := decide_eq_decide.2 (by omega)
   rw [e1, e2, e3, e4, ← e, e5]
   unfold ascF
   cases decide (l.length <= 80)<;>simp
 . have e : (inB start 0 next && decide (next <= 100000)) = false := by
    simp only [inB, Bool.and_eq_false_iff, decide_eq_false_iff_not]; omega
   have e' : (inB next 0 100000 && inB start 0 next) = false := by
    simp only [inB, Bool.and_eq_false_iff, decide_eq_false_iff_not]; omega
   rw [e', Bool.and_assoc (Qa1 start (next - 1) l 0), e]
   simp
theorem implRowOk_any (start next : Int) (A : Option Addr) (cap : Nat) (l : List It) (hl : l.length <= 2000000) (hs : ∀ x ∈ l, x.key.size <= 9223372036854775807 /\ x.text.size <= 9223372036854775807) (w : World) (hA : l = [] ∨ ∃ b o, A = some ⟨b, o, none⟩ /\ b < w.heap.size /\ In w b o l) :
 Calls Tryz.prog 127 #[.agg (Qay start next A l.length cap)] w fun e w' => e = .returned (.bool (rowB start next l)) /\ Below w.heap.size w w' := by
 rw [← okB_row]
 exact Qlk start next A cap l hl hs w hA
end Go.Proofs.YtenhcjkkpnlbeaaGreatDoor.Items
namespace Go.Proofs.YtenhcjkkpnlbeaaGreatDoor.Items
open ChangeShapes WideShapes ChangeAt RowKit Shelf Base
theorem Blk.thaw {W : World} {B : Nat} {t : TypeId} {vs : Array Value} (h : Blk W B t vs) (i : Nat) : W.frozen? ⟨B, i, none⟩ = false := by simp [World.frozen?, show W.heap[B]? = _ from h]
theorem Blk.setAt {W : World} {B : Nat} {t : TypeId} {vs : Array Value} (h : Blk W B t vs) (i : Nat) (v : Value) : Blk (W.setCell ⟨B, i, none⟩ v) B t (vs.setIfInBounds i v) := by
 obtain ⟨hlt, hk⟩ := Array.getElem?_eq_some_iff.1 h
 show (W.heap.modify B _)[B]? = _
 rw [Array.getElem?_eq_getElem (by rw [Array.size_modify]; exact hlt), Array.getElem_modify_self, hk]
 rfl
theorem Blk.drew {W : World} {B : Nat} {t : TypeId} {vs : Array Value} (h : Blk W B t vs) : Blk W.drew B t vs := h
theorem Qa7 {n : Nat} {a b : World} (h : Below n a b) {B i : Nat} (hn : n <= B) (v : Value) : Below n a (b.setCell ⟨B, i, none⟩ v) := h.setCell (p := ⟨B, i, none⟩) hn v
end Go.Proofs.YtenhcjkkpnlbeaaGreatDoor.Items
namespace Go.Proofs.YtenhcjkkpnlbeaaGreatDoor.Gen
open ChangeShapes WideShapes ChangeAt RowKit Joins Deep Base
instance : Cel Int where
  k := 1
  cs x := [.int .i64 x]
  len _ := rfl
  one x u hu := by simp at hu; subst hu; rfl
theorem In.getInt {w : World} {b o : Nat} {l : List Int} (h : In w b o l) (i : Nat) (hi : i < l.length) : w.cell? ⟨b, o + i, none⟩ = some (.int .i64 l[i]) := by
 have := h.cell i hi (f := 0) rfl
 have e : o + i * Cel.k Int + 0 = o + i := by show o + i * 1 + 0 = o + i; omega
 rwa [e] at this
theorem Qj6 {w : World} {b o m n : Nat} (h : w.there b o (m * 1)) (hn : n < m) : (∃ v, w.cell? ⟨b, o + n, none⟩ = some v) /\ w.frozen? ⟨b, o + n, none⟩ = false := by
 have := Qaq (f := 0) h hn (by omega)
 rwa [Nat.mul_one, Nat.add_zero] at this
theorem Qdf : (Tryz.prog.info? 3).map (fun i => (i.zero, i.size, i.bytes)) = some (some (.int .i64 0), 1, 8) := by kernel_rfl
theorem Qc5 (A A' : Option Addr) (cap cap' : Nat) (l : List Int) (hl : l.length <= 9223372036854775807) (w : World) (hA : At w A l) (hA' : At w A' l) :
 Calls Tryz.prog 19 #[.slice A l.length cap, .slice A' l.length cap'] w fun e w' => e = .returned (.bool true) /\ Below w.heap.size w w' := by
 have HA : Hid (At w A l) := hA
 have HA' : Hid (At w A' l) := hA'
 clear hA hA'
 go_enter Tryz.func19, Tryz.ntmps19
 go_wp2
 go_loopw [5] (fun i w' => ∃ (n : Nat), i = .int .i64 (n : Int) /\ n <= l.length /\ Below w.heap.size w w') (fun i _ => l.length - (intOf i).toNat)
 case atStart => exact ⟨0, rfl, by omega, Below.refl _ _⟩
 case round =>
  obtain ⟨n, rfl, hn, hbl⟩ := hrel
  by_cases hlt : n < l.length
  . obtain ⟨b, o, rfl, hbs, hin⟩ : ∃ b o, A = some ⟨b, o, none⟩ /\ b < w.heap.size /\ In w b o l := by
     rcases HA.out with h | h
     . subst h; simp at hlt
     . exact h
    obtain ⟨b', o', rfl, hbs', hin'⟩ : ∃ b o, A' = some ⟨b, o, none⟩ /\ b < w.heap.size /\ In w b o l := by
     rcases HA'.out with h | h
     . subst h; simp at hlt
     . exact h
    have c0 := (hin.below hbs hbl).getInt n hlt
    have d0 := (hin'.below hbs' hbl).getInt n hlt
    have hi0 : (0 : Int) <= (n : Int) := by omega
    have hi1 : (n : Int) < (l.length : Int) := by omega
    go_wp2
    go_region
    all_goals
     go_wp2
     exact ⟨⟨n + 1, by go_num, by omega, by repeat (first | exact hbl | refine Below.drew ?_)⟩, by simp [intOf]; omega⟩
  . go_wp2
    go_ret
    exact ⟨rfl, hbl⟩
def Qa2 (n : Nat) (z : Int) : List Int := (List.range n).map fun (i : Nat) => z + (i : Int)
theorem Qat (n : Nat) (z : Int) : (Qa2 n z).length = n := by simp [Qa2]
theorem Qi6 (n : Nat) (z : Int) : Qa2 (n + 1) z = Qa2 n z ++ [z + (n : Int)] := by simp [Qa2, List.range_succ]
theorem Qku (n : Nat) (z : Int) (i : Nat) (h : i < (Qa2 n z).length) : (Qa2 n z)[i] = z + (i : Int) := by simp [Qa2]
theorem Qms (b o cap m : Nat) (k : Int) (hk : 1 <= k) (hk' : k <= 100000000) (hm : m <= 2000000) (w : World) (hb : b < w.heap.size) (hth : w.there b o (m * 1)) :
 Calls Tryz.prog 24 #[.slice (some ⟨b, o, none⟩) m cap, .int .i64 k] w fun e w' => e = .returned (.int .i64 (k + (m : Int))) /\ Only b w w' /\ In w' b o (Qa2 m k) /\ w'.there b o (m * 1) := by
 have HT : Hid (w.there b o (m * 1)) := hth
 clear hth
 go_enter Tryz.func24, Tryz.ntmps24
 go_wp2
 go_loopw [1, 5] (fun kk i w' => ∃ (n : Nat) (z : Int), i = .int .i64 (n : Int) /\ kk = .int .i64 z /\ n <= m /\ 1 <= z /\ z <= 900000000 /\ Only b w w' /\ Hid (z = k + (n : Int)) /\ Hid (In w' b o (Qa2 n k)) /\ Hid (w'.there b o (m * 1))) (fun _ i _ => m - (intOf i).toNat)
 case atStart => exact ⟨0, k, rfl, rfl, by omega, hk, by omega, Only.refl _ _, by simp [Hid], fun j v hv => by simp [Qa2, flat] at hv, HT.out⟩
 case round =>
  obtain ⟨n, z, rfl, rfl, hn, hz1, hz2, ho, hz, hin, hth⟩ := hrel
  by_cases hlt : n < m
  . obtain ⟨⟨v0, d0⟩, f0⟩ := Qj6 hth.out hlt
    have q1 : b < wr.heap.size := Nat.lt_of_lt_of_le hb ho.size
    go_wp2
    have hlen : (flat (Qa2 n k)).length = n := by rw [Qa6, Qat]; show n * 1 = n; omega
    have P0 := push (v := .int .i64 z) (q := o + n) ⟨hin.out, hth.out, q1⟩ (by simp [hlen]; omega) (by simp [hlen])
    have e : flat (Qa2 n k) ++ [Value.int .i64 z] = flat (Qa2 (n + 1) k) := by rw [Qi6, Qbf, Qce, hz.out]; rfl
    rw [e] at P0
    have hz' := hz.out
    refine ⟨⟨n + 1, z + 1, by go_num, rfl, by omega, by omega, by omega, ?_, by show z + 1 = _; omega, P0.1, P0.2.1⟩, by simp [intOf]; omega⟩
    exact ho.set _ _
  . obtain rfl : n = m := by omega
    go_wp2
    go_ret
    have e := hz.out
    subst e
    exact ⟨rfl, ho, hin.out, hth.out⟩
theorem Qlb (A : Option Addr) (cap : Nat) (k : Int) (w : World) :
 Calls Tryz.prog 24 #[.slice A 0 cap, .int .i64 k] w fun e w' => e = .returned (.int .i64 k) /\ w' = w := by
 go_enter Tryz.func24, Tryz.ntmps24
 go_wp2
 go_loopw [1, 5] (fun kk i w' => kk = .int .i64 k /\ i = .int .i64 0 /\ w' = w) (fun _ _ _ => 0)
 case atStart => exact ⟨rfl, rfl, rfl⟩
 case round =>
  obtain ⟨rfl, rfl, rfl⟩ := hrel
  go_wp2
  go_ret
  exact ⟨rfl, rfl⟩
theorem Qcj (A : Option Addr) (cap m : Nat) (k : Int) (hk : 1 <= k) (hk' : k <= 100000000) (hm : m <= 2000000) (w : World)
 (hA : m = 0 ∨ ∃ b o, A = some ⟨b, o, none⟩ /\ b < w.heap.size /\ In w b o (Qa2 m k)) :
 Calls Tryz.prog 29 #[.slice A m cap, .int .i64 k] w fun e w' => e = .returned (.int .i64 (k + (m : Int))) /\ Below w.heap.size w w' := by
 have HA : Hid (m = 0 ∨ ∃ b o, A = some ⟨b, o, none⟩ /\ b < w.heap.size /\ In w b o (Qa2 m k)) := hA
 clear hA
 go_enter Tryz.func29, Tryz.ntmps29
 go_wp2
 go_loopw [1, 5] (fun kk i w' => ∃ (n : Nat) (z : Int), i = .int .i64 (n : Int) /\ kk = .int .i64 z /\ n <= m /\ 1 <= z /\ z <= 900000000 /\ Hid (z = k + (n : Int)) /\ Below w.heap.size w w') (fun _ i _ => m - (intOf i).toNat)
 case atStart => exact ⟨0, k, rfl, rfl, by omega, hk, by omega, by simp [Hid], Below.refl _ _⟩
 case round =>
  obtain ⟨n, z, rfl, rfl, hn, hz1, hz2, hz, hbl⟩ := hrel
  by_cases hlt : n < m
  . obtain ⟨b, o, rfl, hbs, hin⟩ : ∃ b o, A = some ⟨b, o, none⟩ /\ b < w.heap.size /\ In w b o (Qa2 m k) := by
     rcases HA.out with h | h
     . omega
     . exact h
    have c0 : wr.cell? ⟨b, o + n, none⟩ = some (.int .i64 z) := by
     have h := (hin.below hbs hbl).getInt n (by rw [Qat]; exact hlt)
     rw [Qku] at h
     rw [hz.out]
     exact h
    have hi0 : (0 : Int) <= (n : Int) := by omega
    have hi1 : (n : Int) < (m : Int) := by omega
    go_wp2
    try go_region
    all_goals
     try go_wp2
     have hz' := hz.out
     exact ⟨⟨n + 1, z + 1, by go_num, rfl, by omega, by omega, by omega, by show z + 1 = _; omega, by repeat (first | exact hbl | refine Below.drew ?_)⟩, by simp [intOf]; omega⟩
  . obtain rfl : n = m := by omega
    go_wp2
    go_ret
    have e := hz.out
    subst e
    exact ⟨rfl, hbl⟩
end Go.Proofs.YtenhcjkkpnlbeaaGreatDoor.Gen
