/-
  Laws of our own that every claim of this seat leans on: how a law's row is closed once its call is known to answer true and to turn nothing that was there. No condition.
-/
import Derived.Test.YtbcbdhjeebcleaaGreatDoorRows
import Derived.Lib.SmallJoins
import Derived.Deep.RegionHeld3
import Derived.Deep.AppendLies
import Derived.Deep.Upon
set_option linter.unusedVariables false
set_option linter.unusedSimpArgs false
set_option maxRecDepth 100000
set_option maxHeartbeats 8000000
namespace Go.Proofs.YtbcbdhjeebcleaaGreatDoor.Base
open ChangeShapes WideShapes ChangeAt RowKit
theorem Qaf {W w1 : World} (hb : Below W.heap.size W w1) : (∀ b o, b < W.heap.size -> w1.cell? ⟨b, o, none⟩ = W.cell? ⟨b, o, none⟩) /\ (∀ b o, b < W.heap.size -> w1.frozen? ⟨b, o, none⟩ = W.frozen? ⟨b, o, none⟩) :=
 ⟨fun b o h => hb.cell (p := ⟨b, o, none⟩) h, fun b o h => hb.frozen (p := ⟨b, o, none⟩) h⟩
theorem via {B : Nat} {a b c : World} (k : Below b.heap.size b c) (hB : B <= b.heap.size) (h : Below B a b) : Below B a c := h.trans (k.mono hB)
theorem Qcq {H : Type} {enc : TypeId × Value -> H} {P : Program} (hl : laidOutB P = true) {W W' : World} (hb : Below W.heap.size W W') :
 ∀ (ts : List TypeId) (vs : List Value) (ds : List (DataW H)) (ps : List MemPlace), ts.all (fun t => P.readableRec t && decide (t < P.types.size)) = true ->
  DataW.TrodAll enc P W 0 (fun _ => true) true ts vs ds ps -> (∀ x ∈ ps, x.block < W.heap.size) ->
  DataW.TrodAll enc P W' 0 (fun b => decide (b < W.heap.size)) true ts vs ds ps
 | [], [], [], ps, _, h, _ => h
 | t :: ts, v :: vs, d :: ds, ps, hr, h, hlt => by
  obtain ⟨p, q, h1, h2, rfl⟩ := h
  simp only [List.all_cons, Bool.and_eq_true, decide_eq_true_eq] at hr
  refine ⟨p, q, Below.trod hl hr.1.1 hr.1.2 h1 hb (fun x hx => hlt x (by simp [hx])), ?_, rfl⟩
  exact Qcq hl hb ts vs ds q hr.2 h2 (fun x hx => hlt x (by simp [hx]))
 | [], _ :: _, _, _, _, h, _ => h.elim
 | [], [], _ :: _, _, _, h, _ => h.elim
 | _ :: _, [], _, _, _, h, _ => h.elim
 | _ :: _, _ :: _, [], _, _, h, _ => h.elim
end Go.Proofs.YtbcbdhjeebcleaaGreatDoor.Base
namespace Go.Proofs.YtbcbdhjeebcleaaGreatDoor.Items
open ChangeShapes WideShapes ChangeAt RowKit Base
def inB (x lo hi : Int) : Bool := decide (lo <= x /\ x <= hi)
theorem in_any (x lo hi : Int) (w : World) :
 Calls Tryz.prog 34 #[.int .i64 x, .int .i64 lo, .int .i64 hi] w fun e w' => e = .returned (.bool (inB x lo hi)) /\ w' = w := by
 by_cases h1 : lo <= x<;>by_cases h2 : x <= hi <;>
 . go_enter Tryz.func34, Tryz.ntmps34
   go_wp2
   go_ret
   exact ⟨by simp [inB, h1, h2], rfl⟩
def Qaw (x : Nat) : Bool := decide ((97 <= x /\ x <= 122) ∨ (48 <= x /\ x <= 57) ∨ x = 32)
theorem Qby (x : Nat) :
 ((97 : Int) <= x /\ (x : Int) <= 122 /\ Qaw x = true) ∨ ((97 : Int) <= x /\ ¬ (x : Int) <= 122 /\ (48 : Int) <= x /\ ¬ (x : Int) <= 57 /\ ((x : Int) == 32) = false /\ Qaw x = false) ∨
 (¬ (97 : Int) <= x /\ (48 : Int) <= x /\ (x : Int) <= 57 /\ Qaw x = true) ∨ (¬ (97 : Int) <= x /\ (48 : Int) <= x /\ ¬ (x : Int) <= 57 /\ ((x : Int) == 32) = false /\ Qaw x = false) ∨
 (¬ (97 : Int) <= x /\ ¬ (48 : Int) <= x /\ ((x : Int) == 32) = true /\ Qaw x = true) ∨ (¬ (97 : Int) <= x /\ ¬ (48 : Int) <= x /\ ((x : Int) == 32) = false /\ Qaw x = false) := by
 simp only [beq_eq_false_iff_ne, beq_iff_eq, ne_eq, Qaw, decide_eq_true_eq, decide_eq_false_iff_not]
 omega
def Qae (s : ByteArray) (i : Nat) : Bool := (s.data.toList.drop i).all (fun x => Qaw x.toNat)
def textB (s : ByteArray) : Bool := Qae s 0 && decide (s.size <= 30)
theorem Qbt {s : ByteArray} {i : Nat} (h : s.size <= i) : Qae s i = true := by
 have : s.data.toList.drop i = [] := List.drop_eq_nil_of_le (by simpa using h)
 simp [Qae, this]
theorem Qbk {s : ByteArray} {i : Nat} (h : i < s.size) : Qae s i = (Qaw (s[i]'h).toNat && Qae s (i + 1)) := by
 have h' : i < s.data.toList.length := by simpa using h
 unfold Qae
 rw [List.drop_eq_getElem_cons h', List.all_cons]
 rfl
theorem specText_any (s : ByteArray) (hs : s.size <= 9223372036854775807) (w : World) :
 Calls Tryz.prog 64 #[.string s] w fun e w' => e = .returned (.bool (textB s)) /\ Below w.heap.size w w' := by
 go_enter Tryz.func64, Tryz.ntmps64
 go_wp2
 go_loopw [3] (fun i w' => ∃ n : Nat, i = .int .i64 (n : Int) /\ n <= s.size /\ Qae s n = Qae s 0 /\ Below w.heap.size w w') (fun i _ => s.size - (intOf i).toNat)
 case atStart => exact ⟨0, rfl, by omega, rfl, Below.refl _ _⟩
 case round =>
  obtain ⟨n, rfl, hn, hE, hb⟩ := hrel
  by_cases hlt : n < s.size
  . have hst := Qbk hlt
    rcases Qby s[n].toNat with ⟨h1, h2, hp⟩ | ⟨h1, h2, h3, h4, h5, hp⟩ | ⟨h1, h2, h3, hp⟩ | ⟨h1, h2, h3, h4, hp⟩ | ⟨h1, h2, h3, hp⟩ | ⟨h1, h2, h3, hp⟩
    . have hE' : Qae s (n + 1) = Qae s 0 := by rw [← hE, hst, hp]; rfl
      clear hE hst hp
      go_wp2
      exact ⟨⟨n + 1, by go_num, by omega, hE', hb⟩, by simp [intOf]; omega⟩
    . have hE' : textB s = false := by
       have h0 : Qae s 0 = false := by rw [← hE, hst, hp]; rfl
       simp [textB, h0]
      clear hE hst hp
      go_wp2
      go_ret
      exact ⟨by first | rfl | (rw [hE']; rfl), hb⟩
    . have hE' : Qae s (n + 1) = Qae s 0 := by rw [← hE, hst, hp]; rfl
      clear hE hst hp
      go_wp2
      exact ⟨⟨n + 1, by go_num, by omega, hE', hb⟩, by simp [intOf]; omega⟩
    . have hE' : textB s = false := by
       have h0 : Qae s 0 = false := by rw [← hE, hst, hp]; rfl
       simp [textB, h0]
      clear hE hst hp
      go_wp2
      go_ret
      exact ⟨by first | rfl | (rw [hE']; rfl), hb⟩
    . have hE' : Qae s (n + 1) = Qae s 0 := by rw [← hE, hst, hp]; rfl
      clear hE hst hp
      go_wp2
      exact ⟨⟨n + 1, by go_num, by omega, hE', hb⟩, by simp [intOf]; omega⟩
    . have hE' : textB s = false := by
       have h0 : Qae s 0 = false := by rw [← hE, hst, hp]; rfl
       simp [textB, h0]
      clear hE hst hp
      go_wp2
      go_ret
      exact ⟨by first | rfl | (rw [hE']; rfl), hb⟩
  . have hE' : Qae s 0 = true := by rw [← hE, Qbt (by omega)]
    have hE2 : textB s = decide (s.size <= 30) := by simp [textB, hE']
    by_cases hl : (s.size : Int) <= 30
    . have : s.size <= 30 := by omega
      go_wp2
      go_ret
      exact ⟨by first | (rw [hE2]; simp [this]; done) | simp, hb⟩
    . have : ¬ s.size <= 30 := by omega
      go_wp2
      go_ret
      exact ⟨by first | (rw [hE2]; simp [this]; done) | simp, hb⟩
end Go.Proofs.YtbcbdhjeebcleaaGreatDoor.Items
namespace Go.Proofs.YtbcbdhjeebcleaaGreatDoor.Items
open ChangeShapes WideShapes ChangeAt RowKit Base
theorem within_any (x lo hi : Int) (w : World) :
 Calls Tryz.prog 112 #[.int .i64 x, .int .i64 lo, .int .i64 hi] w fun e w' => e = .returned (.bool (inB x lo hi)) /\ w' = w := by
 by_cases h1 : lo <= x<;>by_cases h2 : x <= hi <;>
 . go_enter Tryz.func112, Tryz.ntmps112
   go_wp2
   go_ret
   exact ⟨by simp [inB, h1, h2], rfl⟩
theorem Qb9 (x : Nat) (w : World) :
 Calls Tryz.prog 143 #[.int .u8 (x : Int)] w fun e w' => e = .returned (.bool (Qaw x)) /\ w' = w := by
 rcases Qby x with ⟨h1, h2, hp⟩ | ⟨h1, h2, h3, h4, h5, hp⟩ | ⟨h1, h2, h3, hp⟩ | ⟨h1, h2, h3, h4, hp⟩ | ⟨h1, h2, h3, hp⟩ | ⟨h1, h2, h3, hp⟩ <;>
 . rw [hp]
   go_enter Tryz.func143, Tryz.ntmps143
   go_wp2
   go_ret
   exact ⟨rfl, rfl⟩
theorem implText_any (s : ByteArray) (hs : s.size <= 9223372036854775807) (w : World) :
 Calls Tryz.prog 122 #[.string s] w fun e w' => e = .returned (.bool (textB s)) /\ Below w.heap.size w w' := by
 by_cases hl : (s.size : Int) > 30
 . have e1 : textB s = false := by simp [textB]; omega
   rw [e1]
   go_enter Tryz.func122, Tryz.ntmps122
   go_wp2
   go_ret
   exact ⟨rfl, Below.refl _ _⟩
 . have e1 : textB s = Qae s 0 := by simp [textB]; omega
   rw [e1]
   go_enter Tryz.func122, Tryz.ntmps122
   go_wp2
   go_loopw [3] (fun i w' => ∃ n : Nat, i = .int .i64 (n : Int) /\ n <= s.size /\ Qae s n = Qae s 0 /\ Below w.heap.size w w') (fun i _ => s.size - (intOf i).toNat)
   case atStart => exact ⟨0, rfl, by omega, rfl, Below.refl _ _⟩
   case round =>
    obtain ⟨n, rfl, hn, hE, hb⟩ := hrel
    by_cases hlt : n < s.size
    . have hst := Qbk hlt
      cases hp : Qaw s[n].toNat
      . have hE' : Qae s 0 = false := by rw [← hE, hst, hp]; rfl
        clear hE hst
        go_wp2_with (go_at_call 143; refine (Qb9 _ _).mono ?_; rintro e w' ⟨rfl, rfl⟩)
        go_ret
        exact ⟨by first | rfl | (rw [hE']; rfl), hb⟩
      . have hE' : Qae s (n + 1) = Qae s 0 := by rw [← hE, hst, hp]; rfl
        clear hE hst
        go_wp2_with (go_at_call 143; refine (Qb9 _ _).mono ?_; rintro e w' ⟨rfl, rfl⟩)
        exact ⟨⟨n + 1, by go_num, by omega, hE', hb⟩, by simp [intOf]; omega⟩
    . have hE' : Qae s 0 = true := by rw [← hE, Qbt (by omega)]
      go_wp2
      go_ret
      exact ⟨by first | rfl | (rw [hE']; rfl), hb⟩
end Go.Proofs.YtbcbdhjeebcleaaGreatDoor.Items
namespace Go.Proofs.YtbcbdhjeebcleaaGreatDoor.Gen
open ChangeShapes WideShapes ChangeAt RowKit Joins Deep Base
theorem via0 {a b c : World} (k : Below b.heap.size b c) (h : Below a.heap.size a b) : Below a.heap.size a c := h.trans (k.mono h.size)
theorem Qaa {a b : World} (h : Below a.heap.size a b) (o : Obj) : Below a.heap.size a (b.alloc o) := h.alloc h.size o
theorem hidP {p : Prop} (h : p) : Hid p := h
theorem Qam {n : Nat} {a b : World} (h : Below n a b) {B i : Nat} (hn : n <= B) (v : Value) : Below n a (b.setCell ⟨B, i, none⟩ v) := h.setCell (p := ⟨B, i, none⟩) hn v
class Cel (α : Type) where
  k : Nat
  cs : α -> List Value
  len : ∀ x, (cs x).length = k
  one : ∀ x, ∀ u ∈ cs x, u.oneCell' = true
section
variable {α : Type} [Cel α]
def flat (l : List α) : List Value := l.flatMap Cel.cs
theorem Qbr (l : List α) : (flat l).length = l.length * Cel.k α := by
 induction l with
 | nil => simp [flat]
 | cons a l ih => simp only [flat, List.flatMap_cons, List.length_append, List.length_cons] at ih ⊢; rw [ih, Cel.len, Nat.add_mul, Nat.one_mul, Nat.add_comm]
theorem Qb2 (l m : List α) : flat (l ++ m) = flat l ++ flat m := by simp [flat]
theorem Qdn (x : α) : flat [x] = Cel.cs x := by simp [flat]
theorem Qd4 (x : α) (l : List α) : flat (x :: l) = Cel.cs x ++ flat l := by simp [flat]
theorem Qdo (l : List α) : ∀ (i : Nat) (h : i < l.length) (f : Nat), f < Cel.k α -> (flat l)[i * Cel.k α + f]? = (Cel.cs l[i])[f]? := by
 induction l with
 | nil => intro i h; simp at h
 | cons a l ih =>
  intro i h f hf
  rw [Qd4]
  cases i with
  | zero => rw [List.getElem?_append_left (by rw [Cel.len]; omega)]; simp
  | succ i =>
   rw [List.getElem?_append_right (by rw [Cel.len, Nat.add_mul]; omega), Cel.len]
   have e : (i + 1) * Cel.k α + f - Cel.k α = i * Cel.k α + f := by rw [Nat.add_mul]; omega
   rw [e, ih i (by simpa using h) f hf]; simp
def In (w : World) (b o : Nat) (l : List α) : Prop := w.rangeAt b o (flat l)
theorem In.cell {w : World} {b o : Nat} {l : List α} (h : In w b o l) (i : Nat) (hi : i < l.length) {f : Nat} {v : Value} (hv : (Cel.cs l[i])[f]? = some v) : w.cell? ⟨b, o + i * Cel.k α + f, none⟩ = some v := by
 have hf : f < Cel.k α := by have := (List.getElem?_eq_some_iff.1 hv).1; rwa [Cel.len] at this
 have := h (i * Cel.k α + f) v (by rw [Qdo l i hi f hf]; exact hv)
 rwa [← Nat.add_assoc] at this
theorem In.below {w w' : World} {b o : Nat} {l : List α} (h : In w b o l) (hb : b < w.heap.size) (hw : Below w.heap.size w w') : In w' b o l :=
 fun j v hv => (hw.cell (p := ⟨b, o + j, none⟩) hb).trans (h j v hv)
theorem In.nil (w : World) (b o : Nat) : In w b o ([] : List α) := fun j v hv => by simp [flat] at hv
theorem In.set {w : World} {b o : Nat} {l : List α} (h : In w b o l) (p : Addr) (v : Value) (hp : p.block ≠ b) : In (w.setCell p v) b o l := fun j u hu => by
 rw [World.cell?_setCell_other (h := fun e => hp (by rw [e]))]; exact h j u hu
abbrev At (w : World) (A : Option Addr) (l : List α) : Prop := l = [] ∨ ∃ b o, A = some ⟨b, o, none⟩ /\ b < w.heap.size /\ In w b o l
theorem At.below {w w' : World} {A : Option Addr} {l : List α} (h : At w A l) (hw : Below w.heap.size w w') : At w' A l :=
 h.imp id fun ⟨b, o, e, hb, hi⟩ => ⟨b, o, e, Nat.lt_of_lt_of_le hb hw.size, hi.below hb hw⟩
theorem Qat {w : World} {b o : Nat} {xs ys : List Value} (h1 : w.rangeAt b o xs) (h2 : w.rangeAt b (o + xs.length) ys) : w.rangeAt b o (xs ++ ys) := fun j v hv => by
 by_cases hj : j < xs.length
 . exact h1 j v (by rwa [List.getElem?_append_left hj] at hv)
 . rw [List.getElem?_append_right (by omega)] at hv
   have := h2 (j - xs.length) v hv
   have e : o + xs.length + (j - xs.length) = o + j := by omega
   rwa [e] at this
theorem Qcu {w w' : World} {b o : Nat} {cs : List Value} (h : w.rangeAt b o cs) (hb : b < w.heap.size) (hw : Below w.heap.size w w') : w'.rangeAt b o cs :=
 fun j v hv => (hw.cell (p := ⟨b, o + j, none⟩) hb).trans (h j v hv)
theorem Qak {w w' : World} {b o n : Nat} (h : w.there b o n) (hb : b < w.heap.size) (hw : Below w.heap.size w w') : w'.there b o n := fun j hj => by
 rw [hw.cell (p := ⟨b, o + j, none⟩) hb, hw.frozen (p := ⟨b, o + j, none⟩) hb]
 exact h j hj
theorem Qac {w : World} {b o n : Nat} (h : w.there b o n) (b' o' : Nat) (v : Value) : (w.setCell ⟨b', o', none⟩ v).there b o n := World.there_setCells h b' o' [v]
theorem Qab {w : World} {b o k m n f : Nat} (h : w.there b o (m * k)) (hn : n < m) (hf : f < k) : (∃ v, w.cell? ⟨b, o + n * k + f, none⟩ = some v) /\ w.frozen? ⟨b, o + n * k + f, none⟩ = false := by
 have hlt : n * k + f < m * k := by have : (n + 1) * k <= m * k := Nat.mul_le_mul_right k hn; rw [Nat.add_mul] at this; omega
 have := h (n * k + f) hlt
 rw [← Nat.add_assoc] at this
 exact ⟨Option.isSome_iff_exists.1 this.1, this.2⟩
theorem Qbu {w : World} {b : Nat} {l : List α} {n : Nat} (hin : In w b 0 (l.take n)) (hth : w.there b 0 (l.length * Cel.k α)) (hn : n < l.length) :
 In (w.setCells b (n * Cel.k α) (Cel.cs l[n])) b 0 (l.take (n + 1)) /\ (w.setCells b (n * Cel.k α) (Cel.cs l[n])).there b 0 (l.length * Cel.k α) := by
 have hlen : (flat (l.take n)).length = n * Cel.k α := by rw [Qbr, List.length_take, Nat.min_eq_left (by omega)]
 refine ⟨?_, World.there_setCells hth _ _ _⟩
 unfold In
 rw [List.take_succ_eq_append_getElem hn, Qb2, Qdn]
 refine Qat (World.rangeAt_setCells_apart hin _ _ _ (.inr (.inl (by rw [hlen]; omega)))) ?_
 rw [hlen, Nat.zero_add]
 refine World.rangeAt_setCells_same _ _ _ _ fun j hj => ?_
 have hj' : j < Cel.k α := by rwa [Cel.len] at hj
 have hlt : n * Cel.k α + j < l.length * Cel.k α := by have : (n + 1) * Cel.k α <= l.length * Cel.k α := Nat.mul_le_mul_right _ hn; rw [Nat.add_mul] at this; omega
 have := hth (n * Cel.k α + j) hlt
 rwa [Nat.zero_add] at this
end
structure Only (b : Nat) (w w' : World) : Prop where
  os : w'.os = w.os
  tape : w'.tape = w.tape
  output : w'.output = w.output
  size : w.heap.size <= w'.heap.size
  block : ∀ k, k < w.heap.size -> k ≠ b -> w'.heap[k]? = w.heap[k]?
theorem Only.refl (b : Nat) (w : World) : Only b w w := ⟨rfl, rfl, rfl, Nat.le_refl _, fun _ _ _ => rfl⟩
theorem Only.set {b : Nat} {w w1 : World} (h : Only b w w1) (o : Nat) (v : Value) : Only b w (w1.setCell ⟨b, o, none⟩ v) :=
 ⟨h.os, h.tape, h.output, by simpa using h.size, fun i hi hb => (Below.heap_setCell w1 ⟨b, o, none⟩ v i hb).trans (h.block i hi hb)⟩
theorem push {w : World} {b o q m : Nat} {cs : List Value} {v : Value} (h : w.rangeAt b o cs /\ w.there b o m /\ b < w.heap.size) (hl : cs.length < m) (hq : q = o + cs.length) :
 (w.setCell ⟨b, q, none⟩ v).rangeAt b o (cs ++ [v]) /\ (w.setCell ⟨b, q, none⟩ v).there b o m /\ b < (w.setCell ⟨b, q, none⟩ v).heap.size := by
 subst hq
 obtain ⟨h, ht, hb⟩ := h
 refine ⟨Qat (World.rangeAt_setCells_apart h b (o + cs.length) [v] (.inr (.inl (Nat.le_refl _)))) (World.rangeAt_setCells_same w b (o + cs.length) [v] fun j hj => ?_), World.there_setCells ht b _ [v], by simpa using hb⟩
 have hj' : j = 0 := by simp at hj; exact hj
 subst hj'
 exact ht cs.length hl
theorem Qfr (w : World) (o : Obj) : (w.alloc o).heap[w.heap.size]? = some o := by
 show (w.heap.push o)[w.heap.size]? = some o
 simp
def Blk (W : World) (B : Nat) (t : TypeId) (vs : Array Value) : Prop := W.heap[B]? = some (.cells vs t (0, 0))
theorem Blk.lt {W : World} {B : Nat} {t : TypeId} {vs : Array Value} (h : Blk W B t vs) : B < W.heap.size := (Array.getElem?_eq_some_iff.1 h).1
theorem Blk.cell {W : World} {B : Nat} {t : TypeId} {vs : Array Value} (h : Blk W B t vs) {i : Nat} {v : Value} (hv : vs[i]? = some v) : W.cell? ⟨B, i, none⟩ = some v := by simp [World.cell?, show W.heap[B]? = _ from h, hv]
theorem Blk.new (W : World) (t : TypeId) (vs : Array Value) : Blk (W.alloc (.cells vs t)) W.heap.size t vs := Qfr W _
theorem Blk.kept {W W' : World} {row : Option Nat} {B : Nat} {t : TypeId} {vs : Array Value} (h : Blk W B t vs) (hg : W.grownBy W' row) (hne : some B ≠ row) : Blk W' B t vs := (hg.block B h.lt hne).trans h
theorem Blk.alloc {W : World} {B : Nat} {t : TypeId} {vs : Array Value} (h : Blk W B t vs) (o : Obj) : Blk (W.alloc o) B t vs := h.kept (World.grownBy_alloc W o none) (by simp)
theorem Blk.other {W : World} {B B' : Nat} {t : TypeId} {vs : Array Value} (h : Blk W B t vs) (hne : B ≠ B') (i : Nat) (u : Value) : Blk (W.setCell ⟨B', i, none⟩ u) B t vs :=
 (Below.heap_setCell W ⟨B', i, none⟩ u B hne).trans h
theorem Blk.below {W W' : World} {n : Nat} {B : Nat} {t : TypeId} {vs : Array Value} (h : Blk W B t vs) (hb : Below n W W') (hn : B < n) : Blk W' B t vs := (hb.block B hn).trans h
theorem Blk.thaw {W : World} {B : Nat} {t : TypeId} {vs : Array Value} (h : Blk W B t vs) (i : Nat) : W.frozen? ⟨B, i, none⟩ = false := by simp [World.frozen?, show W.heap[B]? = _ from h]
theorem Blk.setAt {W : World} {B : Nat} {t : TypeId} {vs : Array Value} (h : Blk W B t vs) (i : Nat) (v : Value) : Blk (W.setCell ⟨B, i, none⟩ v) B t (vs.setIfInBounds i v) := by
 obtain ⟨hlt, hk⟩ := Array.getElem?_eq_some_iff.1 h
 show (W.heap.modify B _)[B]? = _
 rw [Array.getElem?_eq_getElem (by rw [Array.size_modify]; exact hlt), Array.getElem_modify_self, hk]
 rfl
theorem Blk.drew {W : World} {B : Nat} {t : TypeId} {vs : Array Value} (h : Blk W B t vs) : Blk W.drew B t vs := h
theorem Blk.row3 {W : World} {B : Nat} {t : TypeId} {a b c : Value} (h : Blk W B t #[a, b, c]) : W.cell? ⟨B, 0, none⟩ = some a /\ W.cell? ⟨B, 1, none⟩ = some b /\ W.cell? ⟨B, 2, none⟩ = some c := ⟨h.cell (by rfl), h.cell (by rfl), h.cell (by rfl)⟩
theorem Blk.row4 {W : World} {B : Nat} {t : TypeId} {a b c d : Value} (h : Blk W B t #[a, b, c, d]) : W.cell? ⟨B, 0, none⟩ = some a /\ W.cell? ⟨B, 1, none⟩ = some b /\ W.cell? ⟨B, 2, none⟩ = some c /\ W.cell? ⟨B, 3, none⟩ = some d := ⟨h.cell (by rfl), h.cell (by rfl), h.cell (by rfl), h.cell (by rfl)⟩
theorem Blk.row5 {W : World} {B : Nat} {t : TypeId} {a b c d e : Value} (h : Blk W B t #[a, b, c, d, e]) : W.cell? ⟨B, 0, none⟩ = some a /\ W.cell? ⟨B, 1, none⟩ = some b /\ W.cell? ⟨B, 2, none⟩ = some c /\ W.cell? ⟨B, 3, none⟩ = some d /\ W.cell? ⟨B, 4, none⟩ = some e := ⟨h.cell (by rfl), h.cell (by rfl), h.cell (by rfl), h.cell (by rfl), h.cell (by rfl)⟩
section
variable {α : Type} [Cel α]
theorem Qay {P : Program} {ts ti : TypeId} {z : Value} {k bytes : Nat} (hu : P.underlying ts = some (.slice ti)) (hinfo : (P.info? ti).map (fun i => (i.zero, i.size, i.bytes)) = some (some z, k, bytes)) (hby : bytes <= 1000) (n : Nat) (hn : n <= 1048576) (w : World) :
 (Instr.makeSlice ts (.int .i64 (n : Int)) (.int .i64 (n : Int))).run P w = .ok (.slice (some ⟨w.heap.size, 0, none⟩) n n) (w.alloc (.cells (madeCells z.cells (n * k)) ti)) := by
 obtain ⟨i0, hi, hz0, hz1, hz2⟩ := info_parts hinfo
 have hsum : bytes * n <= 281474976710656 := Nat.le_trans (Nat.mul_le_mul hby hn) (by omega)
 have r := run_make (P := P) w ts ti i0 z hu hi hz0 .i64 .i64 n n (by omega) (Int.le_refl _) (by rw [hz2, ← Int.natCast_mul]; omega) (by omega)
 rw [r, hz1]
 simp
theorem Qal (w : World) (cs : Array Value) (n k : Nat) (t : TypeId) : (w.alloc (.cells (madeCells cs (n * k)) t)).there w.heap.size 0 (n * k) := fun j hj => by
 have : j < (madeCells cs (n * k)).size := by rw [size_madeCells]; exact hj
 simp [this]
end
def I64 (x : Int) : Prop := -9223372036854775808 <= x /\ x <= 9223372036854775807
theorem Qaq {x : Int} (hx : (Lit.int .i64 x).wf = true) : I64 x := by simpa [I64, Lit.wf, IntKind.min, IntKind.max, IntKind.signed, IntKind.bits] using hx
theorem Qa0 {H : Type} {enc : TypeId × Value -> H} {P : Program} {w : World} {base : Nat} {spare : Nat -> Bool} {held : Bool} {t : TypeId} {fs : Array Field} {cs : List Value} {fuel : Nat} {x : DataW H × List MemPlace}
 (hs : P.underlying t = some (.struct fs)) (hone : oneCellFields P fs = true) (h : DataW.trod enc P w base spare held fuel t cs = some x) :
 ∃ n, ∀ (i : Nat) (f : Field), fs[i]? = some f -> ∀ c, cs[i]? = some c -> ∃ y, DataW.trod enc P w base spare held n f.type [c] = some y := by
 obtain ⟨xs, n, _, _, hl, hlen, hf⟩ := DataW.trod_struct hs h
 refine ⟨n, fun i f hi c hc => ?_⟩
 obtain ⟨o, k⟩ := hone_of hone i f hi
 have hlt : i < fs.size := (Array.getElem?_eq_some_iff.1 hi).1
 have g := hf i f hi
 rw [o, k] at g
 have e : cs.drop i = c :: cs.drop (i + 1) := by
  obtain ⟨h1, h2⟩ := List.getElem?_eq_some_iff.1 hc
  rw [List.drop_eq_getElem_cons h1, h2]
 rw [e] at g
 exact ⟨xs[i]'(by omega), by rw [← List.getElem?_eq_getElem]; simpa using g⟩
theorem Qc2 {α : Type} [Cel α] (hk : 0 < Cel.k α) {W : World} {a : Addr} {len : Nat} {X : Nat -> α} {R : α -> Prop}
 (hX : ∀ i, i < len -> R (X i) /\ (a.add (i * Cel.k α)).spot = none /\ (a.add (i * Cel.k α)).block < W.heap.size /\ ∀ j v, (Cel.cs (X i))[j]? = some v -> W.cell? ⟨(a.add (i * Cel.k α)).block, (a.add (i * Cel.k α)).off + j, none⟩ = some v) :
 ∃ l : List α, l.length = len /\ (∀ x ∈ l, R x) /\ At W (some a) l := by
 refine ⟨(List.range len).map X, by simp, ?_, ?_⟩
 . intro x hxm
   obtain ⟨i, hi, rfl⟩ := List.mem_map.1 hxm
   exact (hX i (by simpa using hi)).1
 . by_cases h0 : len = 0
   . left; simp [h0]
   . right
     obtain ⟨_, hs, hb, _⟩ := hX 0 (by omega)
     rw [Nat.zero_mul, show a.add 0 = a from rfl] at hs hb
     obtain ⟨b, o, s⟩ := a
     simp only at hs hb
     subst hs
     refine ⟨b, o, rfl, hb, ?_⟩
     intro j v hv
     have hj : j < ((List.range len).map X).length * Cel.k α := by
      rw [← Qbr]; exact (List.getElem?_eq_some_iff.1 hv).1
     simp only [List.length_map, List.length_range] at hj
     have hd : j = j / Cel.k α * Cel.k α + j % Cel.k α := by rw [Nat.mul_comm]; exact (Nat.div_add_mod j _).symm
     have hq : j / Cel.k α < len := (Nat.div_lt_iff_lt_mul hk).2 hj
     have hr : j % Cel.k α < Cel.k α := Nat.mod_lt _ hk
     rw [hd, Qdo _ (j / Cel.k α) (by simpa using hq) (j % Cel.k α) hr] at hv
     obtain ⟨_, _, _, hc⟩ := hX (j / Cel.k α) hq
     have := hc (j % Cel.k α) v (by simpa using hv)
     rw [Addr.add_mid] at this
     rw [hd, ← Nat.add_assoc]
     exact this
end Go.Proofs.YtbcbdhjeebcleaaGreatDoor.Gen
