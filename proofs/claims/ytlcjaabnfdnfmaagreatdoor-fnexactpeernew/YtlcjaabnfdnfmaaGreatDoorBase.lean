/-
  Laws of our own that every claim of this seat leans on: how a law's row is closed once its call is known to answer true and to turn nothing that was there. No condition.
-/
import Derived.Test.YtlcjaabnfdnfmaaGreatDoorRows
import Derived.Lib.SmallJoins
import Derived.Deep.RegionHeld3
import Derived.Deep.AppendLies
import Derived.Deep.Upon
set_option linter.unusedVariables false
set_option linter.unusedSimpArgs false
set_option maxRecDepth 100000
set_option maxHeartbeats 8000000
namespace Go.Proofs.YtlcjaabnfdnfmaaGreatDoor.Base
open ChangeShapes WideShapes ChangeAt RowKit
theorem Qaj {W w1 : World} (hb : Below W.heap.size W w1) : (∀ b o, b < W.heap.size -> w1.cell? ⟨b, o, none⟩ = W.cell? ⟨b, o, none⟩) /\ (∀ b o, b < W.heap.size -> w1.frozen? ⟨b, o, none⟩ = W.frozen? ⟨b, o, none⟩) :=
 ⟨fun b o h => hb.cell (p := ⟨b, o, none⟩) h, fun b o h => hb.frozen (p := ⟨b, o, none⟩) h⟩
theorem via {B : Nat} {a b c : World} (k : Below b.heap.size b c) (hB : B <= b.heap.size) (h : Below B a b) : Below B a c := h.trans (k.mono hB)
theorem Qdv {H : Type} {enc : TypeId × Value -> H} {P : Program} (hl : laidOutB P = true) {W W' : World} (hb : Below W.heap.size W W') :
 ∀ (ts : List TypeId) (vs : List Value) (ds : List (DataW H)) (ps : List MemPlace), ts.all (fun t => P.readableRec t && decide (t < P.types.size)) = true ->
  DataW.TrodAll enc P W 0 (fun _ => true) true ts vs ds ps -> (∀ x ∈ ps, x.block < W.heap.size) ->
  DataW.TrodAll enc P W' 0 (fun b => decide (b < W.heap.size)) true ts vs ds ps
 | [], [], [], ps, _, h, _ => h
 | t :: ts, v :: vs, d :: ds, ps, hr, h, hlt => by
  obtain ⟨p, q, h1, h2, rfl⟩ := h
  simp only [List.all_cons, Bool.and_eq_true, decide_eq_true_eq] at hr
  refine ⟨p, q, Below.trod hl hr.1.1 hr.1.2 h1 hb (fun x hx => hlt x (by simp [hx])), ?_, rfl⟩
  exact Qdv hl hb ts vs ds q hr.2 h2 (fun x hx => hlt x (by simp [hx]))
 | [], _ :: _, _, _, _, h, _ => h.elim
 | [], [], _ :: _, _, _, h, _ => h.elim
 | _ :: _, [], _, _, _, h, _ => h.elim
 | _ :: _, _ :: _, [], _, _, h, _ => h.elim
theorem post_true {H : Type} {enc : TypeId × Value -> H} {P : Program} {f : Func} {s : ChangeSpec} {W W' : World} {args : Array Value} {ds gs : List (DataW H)} {before : List MemPlace} {tb : TypeId}
 (hl : laidOutB P = true) (hr : f.params.toList.all (fun t => P.readableRec t && decide (t < P.types.size)) = true)
 (hres : f.resultTypes = #[tb]) (hbool : P.underlying tb = some .bool) (hvars : s.vars = [])
 (hs : s.fn H (ds ++ gs) = { results := [.lit (.bool true)], args := ds })
 (hW : DataW.Whole enc P f.params.toList s.vars false W args.toList ds gs before) (hb : Below W.heap.size W W') :
 s.post enc P f false true false false W args (.bool true) W' := by
 have hW' := hW
 have hlt := hW.lt
 obtain ⟨p, q, hA, hV, rfl, _, _⟩ := hW
 refine ⟨ds, gs, p ++ q, [], p, [], hW', ?_, ?_, ?_, hb.frame _, fun h => by cases h⟩
 . rw [hs, hres]; exact trodAll_mk1 (shut_bool hbool true)
 . rw [hs]; exact Qdv hl hb _ _ _ _ hr hA (fun x hx => hlt x (by simp [hx]))
 . rw [hs, hvars]; rfl
end Go.Proofs.YtlcjaabnfdnfmaaGreatDoor.Base
namespace Go.Proofs.YtlcjaabnfdnfmaaGreatDoor.Items
open ChangeShapes WideShapes ChangeAt RowKit Base
def inB (x lo hi : Int) : Bool := decide (lo <= x /\ x <= hi)
theorem in_any (x lo hi : Int) (w : World) :
 Calls Tryz.prog 11 #[.int .i64 x, .int .i64 lo, .int .i64 hi] w fun e w' => e = .returned (.bool (inB x lo hi)) /\ w' = w := by
 by_cases h1 : lo <= x<;>by_cases h2 : x <= hi <;>
 . go_enter Tryz.func11, Tryz.ntmps11
   go_wp2
   go_ret
   exact ⟨by simp [inB, h1, h2], rfl⟩
def Qbh (x : Nat) : Bool := decide ((97 <= x /\ x <= 122) ∨ (48 <= x /\ x <= 57) ∨ x = 32)
theorem Qcs (x : Nat) :
 ((97 : Int) <= x /\ (x : Int) <= 122 /\ Qbh x = true) ∨ ((97 : Int) <= x /\ ¬ (x : Int) <= 122 /\ (48 : Int) <= x /\ ¬ (x : Int) <= 57 /\ ((x : Int) == 32) = false /\ Qbh x = false) ∨
 (¬ (97 : Int) <= x /\ (48 : Int) <= x /\ (x : Int) <= 57 /\ Qbh x = true) ∨ (¬ (97 : Int) <= x /\ (48 : Int) <= x /\ ¬ (x : Int) <= 57 /\ ((x : Int) == 32) = false /\ Qbh x = false) ∨
 (¬ (97 : Int) <= x /\ ¬ (48 : Int) <= x /\ ((x : Int) == 32) = true /\ Qbh x = true) ∨ (¬ (97 : Int) <= x /\ ¬ (48 : Int) <= x /\ ((x : Int) == 32) = false /\ Qbh x = false) := by
 simp only [beq_eq_false_iff_ne, beq_iff_eq, ne_eq, Qbh, decide_eq_true_eq, decide_eq_false_iff_not]
 omega
def Qad (s : ByteArray) (i : Nat) : Bool := (s.data.toList.drop i).all (fun x => Qbh x.toNat)
def textB (s : ByteArray) : Bool := Qad s 0 && decide (s.size <= 30)
theorem Qcj {s : ByteArray} {i : Nat} (h : s.size <= i) : Qad s i = true := by
 have : s.data.toList.drop i = [] := List.drop_eq_nil_of_le (by simpa using h)
 simp [Qad, this]
theorem Qb7 {s : ByteArray} {i : Nat} (h : i < s.size) : Qad s i = (Qbh (s[i]'h).toNat && Qad s (i + 1)) := by
 have h' : i < s.data.toList.length := by simpa using h
 unfold Qad
 rw [List.drop_eq_getElem_cons h', List.all_cons]
 rfl
theorem specText_any (s : ByteArray) (hs : s.size <= 9223372036854775807) (w : World) :
 Calls Tryz.prog 127 #[.string s] w fun e w' => e = .returned (.bool (textB s)) /\ Below w.heap.size w w' := by
 go_enter Tryz.func127, Tryz.ntmps127
 go_wp2
 go_loopw [3] (fun i w' => ∃ n : Nat, i = .int .i64 (n : Int) /\ n <= s.size /\ Qad s n = Qad s 0 /\ Below w.heap.size w w') (fun i _ => s.size - (intOf i).toNat)
 case atStart => exact ⟨0, rfl, by omega, rfl, Below.refl _ _⟩
 case round =>
  obtain ⟨n, rfl, hn, hE, hb⟩ := hrel
  by_cases hlt : n < s.size
  . have hst := Qb7 hlt
    rcases Qcs s[n].toNat with ⟨h1, h2, hp⟩ | ⟨h1, h2, h3, h4, h5, hp⟩ | ⟨h1, h2, h3, hp⟩ | ⟨h1, h2, h3, h4, hp⟩ | ⟨h1, h2, h3, hp⟩ | ⟨h1, h2, h3, hp⟩
    . have hE' : Qad s (n + 1) = Qad s 0 := by rw [← hE, hst, hp]; rfl
      clear hE hst hp
      go_wp2
      exact ⟨⟨n + 1, by go_num, by omega, hE', hb⟩, by simp [intOf]; omega⟩
    . have hE' : textB s = false := by
       have h0 : Qad s 0 = false := by rw [← hE, hst, hp]; rfl
       simp [textB, h0]
      clear hE hst hp
      go_wp2
      go_ret
      exact ⟨by first | rfl | (rw [hE']; rfl), hb⟩
    . have hE' : Qad s (n + 1) = Qad s 0 := by rw [← hE, hst, hp]; rfl
      clear hE hst hp
      go_wp2
      exact ⟨⟨n + 1, by go_num, by omega, hE', hb⟩, by simp [intOf]; omega⟩
    . have hE' : textB s = false := by
       have h0 : Qad s 0 = false := by rw [← hE, hst, hp]; rfl
       simp [textB, h0]
      clear hE hst hp
      go_wp2
      go_ret
      exact ⟨by first | rfl | (rw [hE']; rfl), hb⟩
    . have hE' : Qad s (n + 1) = Qad s 0 := by rw [← hE, hst, hp]; rfl
      clear hE hst hp
      go_wp2
      exact ⟨⟨n + 1, by go_num, by omega, hE', hb⟩, by simp [intOf]; omega⟩
    . have hE' : textB s = false := by
       have h0 : Qad s 0 = false := by rw [← hE, hst, hp]; rfl
       simp [textB, h0]
      clear hE hst hp
      go_wp2
      go_ret
      exact ⟨by first | rfl | (rw [hE']; rfl), hb⟩
  . have hE' : Qad s 0 = true := by rw [← hE, Qcj (by omega)]
    have hE2 : textB s = decide (s.size <= 30) := by simp [textB, hE']
    by_cases hl : (s.size : Int) <= 30
    . have : s.size <= 30 := by omega
      go_wp2
      go_ret
      exact ⟨by first | (rw [hE2]; simp [this]; done) | simp, hb⟩
    . have : ¬ s.size <= 30 := by omega
      go_wp2
      go_ret
      exact ⟨by first | (rw [hE2]; simp [this]; done) | simp, hb⟩
end Go.Proofs.YtlcjaabnfdnfmaaGreatDoor.Items
namespace Go.Proofs.YtlcjaabnfdnfmaaGreatDoor.Items
open ChangeShapes WideShapes ChangeAt RowKit Base
theorem within_any (x lo hi : Int) (w : World) :
 Calls Tryz.prog 44 #[.int .i64 x, .int .i64 lo, .int .i64 hi] w fun e w' => e = .returned (.bool (inB x lo hi)) /\ w' = w := by
 by_cases h1 : lo <= x<;>by_cases h2 : x <= hi <;>
 . go_enter Tryz.func44, Tryz.ntmps44
   go_wp2
   go_ret
   exact ⟨by simp [inB, h1, h2], rfl⟩
theorem Qda (x : Nat) (w : World) :
 Calls Tryz.prog 178 #[.int .u8 (x : Int)] w fun e w' => e = .returned (.bool (Qbh x)) /\ w' = w := by
 rcases Qcs x with ⟨h1, h2, hp⟩ | ⟨h1, h2, h3, h4, h5, hp⟩ | ⟨h1, h2, h3, hp⟩ | ⟨h1, h2, h3, h4, hp⟩ | ⟨h1, h2, h3, hp⟩ | ⟨h1, h2, h3, hp⟩ <;>
 . rw [hp]
   go_enter Tryz.func178, Tryz.ntmps178
   go_wp2
   go_ret
   exact ⟨rfl, rfl⟩
theorem implText_any (s : ByteArray) (hs : s.size <= 9223372036854775807) (w : World) :
 Calls Tryz.prog 150 #[.string s] w fun e w' => e = .returned (.bool (textB s)) /\ Below w.heap.size w w' := by
 by_cases hl : (s.size : Int) > 30
 . have e1 : textB s = false := by simp [textB]; omega
   rw [e1]
   go_enter Tryz.func150, Tryz.ntmps150
   go_wp2
   go_ret
   exact ⟨rfl, Below.refl _ _⟩
 . have e1 : textB s = Qad s 0 := by simp [textB]; omega
   rw [e1]
   go_enter Tryz.func150, Tryz.ntmps150
   go_wp2
   go_loopw [3] (fun i w' => ∃ n : Nat, i = .int .i64 (n : Int) /\ n <= s.size /\ Qad s n = Qad s 0 /\ Below w.heap.size w w') (fun i _ => s.size - (intOf i).toNat)
   case atStart => exact ⟨0, rfl, by omega, rfl, Below.refl _ _⟩
   case round =>
    obtain ⟨n, rfl, hn, hE, hb⟩ := hrel
    by_cases hlt : n < s.size
    . have hst := Qb7 hlt
      cases hp : Qbh s[n].toNat
      . have hE' : Qad s 0 = false := by rw [← hE, hst, hp]; rfl
        clear hE hst
        go_wp2_with (go_at_call 178; refine (Qda _ _).mono ?_; rintro e w' ⟨rfl, rfl⟩)
        go_ret
        exact ⟨by first | rfl | (rw [hE']; rfl), hb⟩
      . have hE' : Qad s (n + 1) = Qad s 0 := by rw [← hE, hst, hp]; rfl
        clear hE hst
        go_wp2_with (go_at_call 178; refine (Qda _ _).mono ?_; rintro e w' ⟨rfl, rfl⟩)
        exact ⟨⟨n + 1, by go_num, by omega, hE', hb⟩, by simp [intOf]; omega⟩
    . have hE' : Qad s 0 = true := by rw [← hE, Qcj (by omega)]
      go_wp2
      go_ret
      exact ⟨by first | rfl | (rw [hE']; rfl), hb⟩
end Go.Proofs.YtlcjaabnfdnfmaaGreatDoor.Items
namespace Go.Proofs.YtlcjaabnfdnfmaaGreatDoor.Gen
open ChangeShapes WideShapes ChangeAt RowKit Joins Deep Base
theorem via0 {a b c : World} (k : Below b.heap.size b c) (h : Below a.heap.size a b) : Below a.heap.size a c := h.trans (k.mono h.size)
theorem Qaa {a b : World} (h : Below a.heap.size a b) (o : Obj) : Below a.heap.size a (b.alloc o) := h.alloc h.size o
theorem hidP {p : Prop} (h : p) : Hid p := h
theorem Qam {n : Nat} {a b : World} (h : Below n a b) {B i : Nat} (hn : n <= B) (v : Value) : Below n a (b.setCell ⟨B, i, none⟩ v) := h.setCell (p := ⟨B, i, none⟩) hn v
class Cel (α : Type) where
  k : Nat
  cs : α -> List Value
  len : ∀ x, (cs x).length = k
  one : ∀ x, ∀ u ∈ cs x, u.oneCell' = true
section
variable {α : Type} [Cel α]
def flat (l : List α) : List Value := l.flatMap Cel.cs
theorem Qap (l : List α) : (flat l).length = l.length * Cel.k α := by
 induction l with
 | nil => simp [flat]
 | cons a l ih => simp only [flat, List.flatMap_cons, List.length_append, List.length_cons] at ih ⊢; rw [ih, Cel.len, Nat.add_mul, Nat.one_mul, Nat.add_comm]
theorem Qa1 (l m : List α) : flat (l ++ m) = flat l ++ flat m := by simp [flat]
theorem Qbp (x : α) : flat [x] = Cel.cs x := by simp [flat]
theorem Qcx (x : α) (l : List α) : flat (x :: l) = Cel.cs x ++ flat l := by simp [flat]
theorem Qje (l : List α) : ∀ u ∈ flat l, u.oneCell' = true := by
 intro u hu
 obtain ⟨x, _, hx⟩ := List.mem_flatMap.1 hu
 exact Cel.one x u hx
theorem Qd3 (l : List α) : ∀ (i : Nat) (h : i < l.length) (f : Nat), f < Cel.k α -> (flat l)[i * Cel.k α + f]? = (Cel.cs l[i])[f]? := by
 induction l with
 | nil => intro i h; simp at h
 | cons a l ih =>
  intro i h f hf
  rw [Qcx]
  cases i with
  | zero => rw [List.getElem?_append_left (by rw [Cel.len]; omega)]; simp
  | succ i =>
   rw [List.getElem?_append_right (by rw [Cel.len, Nat.add_mul]; omega), Cel.len]
   have e : (i + 1) * Cel.k α + f - Cel.k α = i * Cel.k α + f := by rw [Nat.add_mul]; omega
   rw [e, ih i (by simpa using h) f hf]; simp
def In (w : World) (b o : Nat) (l : List α) : Prop := w.rangeAt b o (flat l)
theorem In.cell {w : World} {b o : Nat} {l : List α} (h : In w b o l) (i : Nat) (hi : i < l.length) {f : Nat} {v : Value} (hv : (Cel.cs l[i])[f]? = some v) : w.cell? ⟨b, o + i * Cel.k α + f, none⟩ = some v := by
 have hf : f < Cel.k α := by have := (List.getElem?_eq_some_iff.1 hv).1; rwa [Cel.len] at this
 have := h (i * Cel.k α + f) v (by rw [Qd3 l i hi f hf]; exact hv)
 rwa [← Nat.add_assoc] at this
theorem In.below {w w' : World} {b o : Nat} {l : List α} (h : In w b o l) (hb : b < w.heap.size) (hw : Below w.heap.size w w') : In w' b o l :=
 fun j v hv => (hw.cell (p := ⟨b, o + j, none⟩) hb).trans (h j v hv)
theorem In.nil (w : World) (b o : Nat) : In w b o ([] : List α) := fun j v hv => by simp [flat] at hv
theorem In.set {w : World} {b o : Nat} {l : List α} (h : In w b o l) (p : Addr) (v : Value) (hp : p.block ≠ b) : In (w.setCell p v) b o l := fun j u hu => by
 rw [World.cell?_setCell_other (h := fun e => hp (by rw [e]))]; exact h j u hu
abbrev At (w : World) (A : Option Addr) (l : List α) : Prop := l = [] ∨ ∃ b o, A = some ⟨b, o, none⟩ /\ b < w.heap.size /\ In w b o l
theorem At.below {w w' : World} {A : Option Addr} {l : List α} (h : At w A l) (hw : Below w.heap.size w w') : At w' A l :=
 h.imp id fun ⟨b, o, e, hb, hi⟩ => ⟨b, o, e, Nat.lt_of_lt_of_le hb hw.size, hi.below hb hw⟩
theorem Qcn {w : World} {b o : Nat} {xs ys : List Value} (h1 : w.rangeAt b o xs) (h2 : w.rangeAt b (o + xs.length) ys) : w.rangeAt b o (xs ++ ys) := fun j v hv => by
 by_cases hj : j < xs.length
 . exact h1 j v (by rwa [List.getElem?_append_left hj] at hv)
 . rw [List.getElem?_append_right (by omega)] at hv
   have := h2 (j - xs.length) v hv
   have e : o + xs.length + (j - xs.length) = o + j := by omega
   rwa [e] at this
theorem Qc0 {w w' : World} {b o : Nat} {cs : List Value} (h : w.rangeAt b o cs) (hb : b < w.heap.size) (hw : Below w.heap.size w w') : w'.rangeAt b o cs :=
 fun j v hv => (hw.cell (p := ⟨b, o + j, none⟩) hb).trans (h j v hv)
theorem Qdq {w w' : World} {b o n : Nat} (h : w.there b o n) (hb : b < w.heap.size) (hw : Below w.heap.size w w') : w'.there b o n := fun j hj => by
 rw [hw.cell (p := ⟨b, o + j, none⟩) hb, hw.frozen (p := ⟨b, o + j, none⟩) hb]
 exact h j hj
theorem Qhy {w : World} {b o n : Nat} (h : w.there b o n) (b' o' : Nat) (v : Value) : (w.setCell ⟨b', o', none⟩ v).there b o n := World.there_setCells h b' o' [v]
theorem Qaf {w : World} {b o k m n f : Nat} (h : w.there b o (m * k)) (hn : n < m) (hf : f < k) : (∃ v, w.cell? ⟨b, o + n * k + f, none⟩ = some v) /\ w.frozen? ⟨b, o + n * k + f, none⟩ = false := by
 have hlt : n * k + f < m * k := by have : (n + 1) * k <= m * k := Nat.mul_le_mul_right k hn; rw [Nat.add_mul] at this; omega
 have := h (n * k + f) hlt
 rw [← Nat.add_assoc] at this
 exact ⟨Option.isSome_iff_exists.1 this.1, this.2⟩
def Fresh (B : Nat) (w : World) (v : Value) (l : List α) : Prop :=
  ∃ (A : Option Addr) (c : Nat), v = .slice A l.length c /\ l.length <= c /\ (l = [] ∨ ∃ b o, A = some ⟨b, o, none⟩ /\ B <= b /\ b < w.heap.size /\ In w b o l /\ w.there b o (l.length * Cel.k α))
theorem Fresh.at {B : Nat} {w : World} {A : Option Addr} {n c : Nat} {l : List α} (h : Fresh B w (.slice A n c) l) : At w A l := by
 obtain ⟨A', c', e, _, h⟩ := h
 cases e
 exact h.imp id fun ⟨b, o, e, _, hb, hi, _⟩ => ⟨b, o, e, hb, hi⟩
end
structure Only (b : Nat) (w w' : World) : Prop where
  os : w'.os = w.os
  tape : w'.tape = w.tape
  output : w'.output = w.output
  size : w.heap.size <= w'.heap.size
  block : ∀ k, k < w.heap.size -> k ≠ b -> w'.heap[k]? = w.heap[k]?
theorem Only.refl (b : Nat) (w : World) : Only b w w := ⟨rfl, rfl, rfl, Nat.le_refl _, fun _ _ _ => rfl⟩
theorem Only.below {b : Nat} {w w1 w2 : World} (h : Only b w w1) (k : Below w1.heap.size w1 w2) : Only b w w2 :=
 ⟨k.os.trans h.os, k.tape.trans h.tape, k.output.trans h.output, Nat.le_trans h.size k.size, fun i hi hb => (k.block i (Nat.lt_of_lt_of_le hi h.size)).trans (h.block i hi hb)⟩
theorem Only.set {b : Nat} {w w1 : World} (h : Only b w w1) (o : Nat) (v : Value) : Only b w (w1.setCell ⟨b, o, none⟩ v) :=
 ⟨h.os, h.tape, h.output, by simpa using h.size, fun i hi hb => (Below.heap_setCell w1 ⟨b, o, none⟩ v i hb).trans (h.block i hi hb)⟩
theorem Only.toBelow {b B : Nat} {w w1 : World} (h : Only b w w1) (hB : B <= b) (hw : B <= w.heap.size) : Below B w w1 :=
 ⟨h.os, h.tape, h.output, h.size, fun i hi => h.block i (by omega) (by omega)⟩
theorem Only.cell {b : Nat} {w w1 : World} (h : Only b w w1) {p : Addr} (hp : p.block < w.heap.size) (hb : p.block ≠ b) : w1.cell? p = w.cell? p := World.cell?_of_block (h.block p.block hp hb)
theorem push {w : World} {b o q m : Nat} {cs : List Value} {v : Value} (h : w.rangeAt b o cs /\ w.there b o m /\ b < w.heap.size) (hl : cs.length < m) (hq : q = o + cs.length) :
 (w.setCell ⟨b, q, none⟩ v).rangeAt b o (cs ++ [v]) /\ (w.setCell ⟨b, q, none⟩ v).there b o m /\ b < (w.setCell ⟨b, q, none⟩ v).heap.size := by
 subst hq
 obtain ⟨h, ht, hb⟩ := h
 refine ⟨Qcn (World.rangeAt_setCells_apart h b (o + cs.length) [v] (.inr (.inl (Nat.le_refl _)))) (World.rangeAt_setCells_same w b (o + cs.length) [v] fun j hj => ?_), World.there_setCells ht b _ [v], by simpa using hb⟩
 have hj' : j = 0 := by simp at hj; exact hj
 subst hj'
 exact ht cs.length hl
theorem Qeq {w w' : World} {b o m : Nat} {cs : List Value} (h : w.rangeAt b o cs /\ w.there b o m /\ b < w.heap.size) (k : Below w.heap.size w w') : w'.rangeAt b o cs /\ w'.there b o m /\ b < w'.heap.size :=
 ⟨Qc0 h.1 h.2.2 k, Qdq h.2.1 h.2.2 k, Nat.lt_of_lt_of_le h.2.2 k.size⟩
theorem Qi0 {b n : Nat} {w : World} {p : Addr} {v : Value} (h : b < w.heap.size) (k : (w.setCell p v).heap.size <= n) : b < n := by simp at k; omega
theorem heap_new (w : World) (o : Obj) : (w.alloc o).heap[w.heap.size]? = some o := by
 show (w.heap.push o)[w.heap.size]? = some o
 simp
def Blk (W : World) (B : Nat) (t : TypeId) (vs : Array Value) : Prop := W.heap[B]? = some (.cells vs t (0, 0))
theorem Blk.lt {W : World} {B : Nat} {t : TypeId} {vs : Array Value} (h : Blk W B t vs) : B < W.heap.size := (Array.getElem?_eq_some_iff.1 h).1
theorem Blk.cell {W : World} {B : Nat} {t : TypeId} {vs : Array Value} (h : Blk W B t vs) {i : Nat} {v : Value} (hv : vs[i]? = some v) : W.cell? ⟨B, i, none⟩ = some v := by simp [World.cell?, show W.heap[B]? = _ from h, hv]
theorem Blk.new (W : World) (t : TypeId) (vs : Array Value) : Blk (W.alloc (.cells vs t)) W.heap.size t vs := heap_new W _
theorem Blk.kept {W W' : World} {row : Option Nat} {B : Nat} {t : TypeId} {vs : Array Value} (h : Blk W B t vs) (hg : W.grownBy W' row) (hne : some B ≠ row) : Blk W' B t vs := (hg.block B h.lt hne).trans h
theorem Blk.alloc {W : World} {B : Nat} {t : TypeId} {vs : Array Value} (h : Blk W B t vs) (o : Obj) : Blk (W.alloc o) B t vs := h.kept (World.grownBy_alloc W o none) (by simp)
theorem Blk.other {W : World} {B B' : Nat} {t : TypeId} {vs : Array Value} (h : Blk W B t vs) (hne : B ≠ B') (i : Nat) (u : Value) : Blk (W.setCell ⟨B', i, none⟩ u) B t vs :=
 (Below.heap_setCell W ⟨B', i, none⟩ u B hne).trans h
theorem Blk.below {W W' : World} {n : Nat} {B : Nat} {t : TypeId} {vs : Array Value} (h : Blk W B t vs) (hb : Below n W W') (hn : B < n) : Blk W' B t vs := (hb.block B hn).trans h
theorem Blk.only {W W' : World} {b B : Nat} {t : TypeId} {vs : Array Value} (h : Blk W B t vs) (k : Only b W W') (hne : B ≠ b) : Blk W' B t vs := (k.block B h.lt hne).trans h
theorem Blk.thaw {W : World} {B : Nat} {t : TypeId} {vs : Array Value} (h : Blk W B t vs) (i : Nat) : W.frozen? ⟨B, i, none⟩ = false := by simp [World.frozen?, show W.heap[B]? = _ from h]
theorem Blk.setAt {W : World} {B : Nat} {t : TypeId} {vs : Array Value} (h : Blk W B t vs) (i : Nat) (v : Value) : Blk (W.setCell ⟨B, i, none⟩ v) B t (vs.setIfInBounds i v) := by
 obtain ⟨hlt, hk⟩ := Array.getElem?_eq_some_iff.1 h
 show (W.heap.modify B _)[B]? = _
 rw [Array.getElem?_eq_getElem (by rw [Array.size_modify]; exact hlt), Array.getElem_modify_self, hk]
 rfl
theorem Blk.drew {W : World} {B : Nat} {t : TypeId} {vs : Array Value} (h : Blk W B t vs) : Blk W.drew B t vs := h
theorem Blk.row1 {W : World} {B : Nat} {t : TypeId} {a : Value} (h : Blk W B t #[a]) : W.cell? ⟨B, 0, none⟩ = some a := h.cell (by rfl)
theorem Blk.row2 {W : World} {B : Nat} {t : TypeId} {a b : Value} (h : Blk W B t #[a, b]) : W.cell? ⟨B, 0, none⟩ = some a /\ W.cell? ⟨B, 1, none⟩ = some b := ⟨h.cell (by rfl), h.cell (by rfl)⟩
theorem Blk.row3 {W : World} {B : Nat} {t : TypeId} {a b c : Value} (h : Blk W B t #[a, b, c]) : W.cell? ⟨B, 0, none⟩ = some a /\ W.cell? ⟨B, 1, none⟩ = some b /\ W.cell? ⟨B, 2, none⟩ = some c := ⟨h.cell (by rfl), h.cell (by rfl), h.cell (by rfl)⟩
theorem Blk.row4 {W : World} {B : Nat} {t : TypeId} {a b c d : Value} (h : Blk W B t #[a, b, c, d]) : W.cell? ⟨B, 0, none⟩ = some a /\ W.cell? ⟨B, 1, none⟩ = some b /\ W.cell? ⟨B, 2, none⟩ = some c /\ W.cell? ⟨B, 3, none⟩ = some d := ⟨h.cell (by rfl), h.cell (by rfl), h.cell (by rfl), h.cell (by rfl)⟩
theorem Blk.row5 {W : World} {B : Nat} {t : TypeId} {a b c d e : Value} (h : Blk W B t #[a, b, c, d, e]) : W.cell? ⟨B, 0, none⟩ = some a /\ W.cell? ⟨B, 1, none⟩ = some b /\ W.cell? ⟨B, 2, none⟩ = some c /\ W.cell? ⟨B, 3, none⟩ = some d /\ W.cell? ⟨B, 4, none⟩ = some e := ⟨h.cell (by rfl), h.cell (by rfl), h.cell (by rfl), h.cell (by rfl), h.cell (by rfl)⟩
theorem Qcu {B : Nat} {W W' : World} {v : Value} {t : TypeId} {k n : Nat} {xs : List Value} (h : W.ownsRow B t k v n xs) (hb : Below W.heap.size W W') : W'.ownsRow B t k v n xs := by
 refine ⟨h.1, ?_⟩
 rcases h.2 with ⟨rfl, rfl⟩ | ⟨g, c, cur, rfl, hB, hg, hc, hm, hsz, ht⟩
 . exact .inl ⟨rfl, rfl⟩
 . exact .inr ⟨g, c, cur, rfl, hB, Blk.below (show Blk W g t cur from hg) hb (Blk.lt (show Blk W g t cur from hg)), hc, hm, hsz, ht⟩
theorem Qca {B : Nat} {W : World} {v : Value} {t : TypeId} {k n : Nat} {xs : List Value} (h : W.ownsRow B t k v n xs) (o : Obj) : (W.alloc o).ownsRow B t k v n xs := Qcu h (Qaa (Below.refl _ _) _)
theorem Qch {B C : Nat} {W : World} {v : Value} {t : TypeId} {k n : Nat} {xs : List Value} (h : W.ownsRow B t k v n xs) (hC : C <= B) : W.ownsRow C t k v n xs := by
 refine ⟨h.1, ?_⟩
 rcases h.2 with ⟨rfl, rfl⟩ | ⟨g, c, cur, rfl, hB, hg, hc, hm, hsz, ht⟩
 . exact .inl ⟨rfl, rfl⟩
 . exact .inr ⟨g, c, cur, rfl, by omega, hg, hc, hm, hsz, ht⟩
theorem owns_lt {B : Nat} {W : World} {v : Value} {t : TypeId} {k n : Nat} {xs : List Value} (h : W.ownsRow B t k v n xs) {g : Nat} (hg : v.ownBlock = some g) : g < W.heap.size := by
 rcases h.2 with ⟨rfl, rfl⟩ | ⟨g', c, cur, rfl, hB, hb, _⟩
 . cases hg
 . have : g' = g := by simpa [Value.ownBlock] using hg
   subst this
   exact Blk.lt (show Blk W g' t cur from hb)
theorem Qa5 {B : Nat} {W : World} {v : Value} {t : TypeId} {k n : Nat} {xs : List Value} (h : W.ownsRow B t k v n xs) : ∃ a c, v = .slice a n c /\ n <= c := by
 rcases h.2 with ⟨rfl, rfl⟩ | ⟨g, c, cur, rfl, hB, hg, hc, _⟩
 . exact ⟨none, 0, rfl, Nat.le_refl _⟩
 . exact ⟨_, _, rfl, hc⟩
theorem owns_far {B C : Nat} {W : World} {v : Value} {t : TypeId} {k n : Nat} {xs : List Value} (h : W.ownsRow B t k v n xs) (hC : C < B) : some C ≠ v.ownBlock := by
 rcases h.2 with ⟨rfl, rfl⟩ | ⟨g, c, cur, rfl, hB, _⟩
 . simp [Value.ownBlock]
 . simp [Value.ownBlock]; omega
theorem Qbf {B C i : Nat} {W : World} {v u : Value} {t : TypeId} {k n : Nat} {xs : List Value} (h : W.ownsRow B t k v n xs) (hne : some C ≠ v.ownBlock) : (W.setCell ⟨C, i, none⟩ u).ownsRow B t k v n xs := by
 refine ⟨h.1, ?_⟩
 rcases h.2 with ⟨rfl, rfl⟩ | ⟨g, c, cur, rfl, hB, hg, hc, hm, hsz, ht⟩
 . exact .inl ⟨rfl, rfl⟩
 . have hCg : g ≠ C := fun e => hne (by simp [Value.ownBlock, e])
   exact .inr ⟨g, c, cur, rfl, hB, Blk.other (show Blk W g t cur from hg) hCg i u, hc, hm, hsz, ht⟩
section
variable {α : Type} [Cel α]
theorem Qd1 {B : Nat} {W : World} {g cap : Nat} {cur : Array Value} {t : TypeId} {l : List α} (h : Blk W g t cur) (hB : B <= g) (hc : l.length <= cap) (hsz : cur.size = cap * Cel.k α) (ht : cur.toList.take (l.length * Cel.k α) = flat l) :
 Fresh B W (.slice (some ⟨g, 0, none⟩) l.length cap) l := by
 refine ⟨_, _, rfl, hc, .inr ⟨g, 0, rfl, hB, h.lt, ?_, ?_⟩⟩
 . intro j v hv
   rw [← ht, List.getElem?_take] at hv
   split at hv
   . exact (h.cell (i := 0 + j) (by simpa using hv))
   . cases hv
 . intro j hj
   refine ⟨?_, h.thaw _⟩
   have hlt : 0 + j < cur.size := by rw [hsz]; have := Nat.mul_le_mul_right (Cel.k α) hc; omega
   rw [h.cell (Array.getElem?_eq_getElem hlt)]; rfl
theorem Qdh {B : Nat} {W : World} {v : Value} {t : TypeId} {l : List α} (h : W.ownsRow B t (Cel.k α) v l.length (flat l)) : Fresh B W v l := by
 rcases h.2 with ⟨rfl, h0⟩ | ⟨g, c, cur, rfl, hB, hg, hc, _, hsz, ht⟩
 . have : l = [] := List.length_eq_zero_iff.1 h0
   subst this
   exact ⟨none, 0, rfl, Nat.le_refl _, .inl rfl⟩
 . exact Qd1 (t := t) hg hB hc hsz ht
theorem Qjc {B n : Nat} {W : World} {v : Value} {t : TypeId} {l : List α} (hn : n = l.length) (h : W.ownsRow B t (Cel.k α) v n (flat l)) : Fresh B W v l := by
 subst hn
 exact Qdh h
theorem owns_n {B n : Nat} {W : World} {v : Value} {t : TypeId} {k : Nat} {l : List α} (hn : n = l.length) (h : W.ownsRow B t k v n (flat l)) : W.ownsRow B t k v l.length (flat l) := by
 subst hn
 exact h
theorem Qep {P : Program} (k : Nat) (ts ti : TypeId) (hu : P.underlying ts = some (.slice ti)) (A : Option Addr) (cap : Nat) (w : World) : Src P k ts (.slice A 0 cap) 0 [] w :=
 ⟨.inl ⟨_, hu⟩, fun w' => by cases A<;>rfl, by cases A<;>simp [Builtin.firstCells, loadCells, loadCellsFrom], by cases A<;>simp [Builtin.firstCells, loadCells, loadCellsFrom], by simp, by simp⟩
theorem Qbm {P : Program} {ts ti : TypeId} {z : Value} {bytes : Nat} (hu : P.underlying ts = some (.slice ti)) (hinfo : (P.info? ti).map (fun i => (i.zero, i.size, i.bytes)) = some (some z, Cel.k α, bytes)) (hz : z.cells.size = Cel.k α) (hk : 0 < Cel.k α) (hby : bytes <= 1000)
 (B : Nat) (v : Value) (l m : List α) (A : Option Addr) (cap : Nat) (w : World) (hB : B <= w.heap.size) (hv : w.ownsRow B ti (Cel.k α) v l.length (flat l)) (hA : At w A m) (hlen : l.length + m.length <= 3000000) :
 ∃ v' w', (Builtin.append_ #[ts, ts] ts #[v, .slice A m.length cap]).run P w = .ok v' w' /\ w'.ownsRow B ti (Cel.k α) v' (l.length + m.length) (flat (l ++ m)) /\ w.grownBy w' v.ownBlock /\ (v'.ownBlock = v.ownBlock ∨ v'.ownBlock = some w.heap.size) := by
 obtain ⟨i0, hi, hz0, hz1, hz2⟩ := info_parts hinfo
 by_cases h0 : m = []
 . subst h0
   have e0 : ∃ a n c, v = .slice a n c /\ n <= c := by
    rcases hv.2 with ⟨rfl, _⟩ | ⟨g, c, cur, rfl, _, _, h, _⟩
    . exact ⟨_, _, _, rfl, Nat.le_refl _⟩
    . exact ⟨_, _, _, rfl, h⟩
   obtain ⟨a, n, c, rfl, hle⟩ := e0
   exact ⟨_, _, run_append_nothing w ts ts ts ti i0 hu hi a n c hle _ (hz1 ▸ Qep _ ts ti hu A cap w), by simpa using hv, World.grownBy.refl _ _, .inl rfl⟩
 . obtain ⟨b, o, rfl, hb, hin⟩ := hA.resolve_left h0
   have hm : 0 < m.length := List.length_pos_iff.2 h0
   have hsum : (l.length + m.length) * bytes <= 140737488355328 := Nat.le_trans (Nat.mul_le_mul hlen hby) (by omega)
   obtain ⟨g, c, w', hr, h1, h2, h3, h4⟩ := run_append_lies (P := P) w ts ts B ti i0 z (Cel.k α) bytes hu hi hz0 hz1 hz2 hz hk v l.length (flat l) hv ⟨b, o, none⟩ m.length cap (flat m) (Qap m)
    (fun j u hu => by rw [Addr.add_mid]; exact hin j u hu) (Qje m) hm (by simp [maxLen]; omega) hsum hB _ rfl
   exact ⟨_, _, hr, by rw [Qa1]; exact h1, h2, h3.imp (fun e => by rw [e]; rfl) (fun e => by rw [← e]; rfl)⟩
theorem Qbk {P : Program} {ts ti : TypeId} {z : Value} {k bytes : Nat} (hu : P.underlying ts = some (.slice ti)) (hinfo : (P.info? ti).map (fun i => (i.zero, i.size, i.bytes)) = some (some z, k, bytes)) (hby : bytes <= 1000) (n : Nat) (hn : n <= 1048576) (w : World) :
 (Instr.makeSlice ts (.int .i64 (n : Int)) (.int .i64 (n : Int))).run P w = .ok (.slice (some ⟨w.heap.size, 0, none⟩) n n) (w.alloc (.cells (madeCells z.cells (n * k)) ti)) := by
 obtain ⟨i0, hi, hz0, hz1, hz2⟩ := info_parts hinfo
 have hsum : bytes * n <= 281474976710656 := Nat.le_trans (Nat.mul_le_mul hby hn) (by omega)
 have r := run_make (P := P) w ts ti i0 z hu hi hz0 .i64 .i64 n n (by omega) (Int.le_refl _) (by rw [hz2, ← Int.natCast_mul]; omega) (by omega)
 rw [r, hz1]
 simp
theorem Qdg (w : World) (cs : Array Value) (n k : Nat) (t : TypeId) : (w.alloc (.cells (madeCells cs (n * k)) t)).there w.heap.size 0 (n * k) := fun j hj => by
 have : j < (madeCells cs (n * k)).size := by rw [size_madeCells]; exact hj
 simp [this]
end
theorem Qav {P : Program} {w w' : World} {o : Oper} {a : Act} {K : Act -> World -> Prop} {Q : Exit -> Act -> World -> Prop} (s x : Operand) (t : TypeId)
 (ho : o.op = .call { callee := .builtin .append, args := #[s, x], argTypes := #[t, t] }) (v xv r : Value) (hs : a.eval s = v) (hx : a.eval x = xv)
 (hr : (Builtin.append_ #[t, t] o.type #[v, xv]).run P w = .ok r w') (h : K (a.put o.dst r) w') : o.wp P a w K Q := by
 unfold Oper.wp execOp
 simp only [ho, resolve, invoke, builtin, Sem.run_bind, Sem.run_pure, Result.andThen_ok, List.map_toArray, List.map_cons, List.map_nil, hs, hx, hr]
 exact h
theorem Qat {P : Program} {w w' : World} {ops : Array Oper} {rest : List Oper} {o : Oper} {a : Act} {Q : Exit -> Act -> World -> Prop} (hgd : o.guard = none) (s x : Operand) (t : TypeId)
 (ho : o.op = .call { callee := .builtin .append, args := #[s, x], argTypes := #[t, t] }) (v xv r : Value) (hs : a.eval s = v) (hx : a.eval x = xv)
 (hr : (Builtin.append_ #[t, t] o.type #[v, xv]).run P w = .ok r w') (h : wpList P ops Q rest (a.put o.dst r) w') : wpList P ops Q (o :: rest) a w :=
 wpList_plain hgd fun _ hK => Qav s x t ho v xv r hs hx hr (hK _ _ h)
def I64 (x : Int) : Prop := -9223372036854775808 <= x /\ x <= 9223372036854775807
theorem Qgp {x : Int} (hx : (Lit.int .i64 x).wf = true) : I64 x := by simpa [I64, Lit.wf, IntKind.min, IntKind.max, IntKind.signed, IntKind.bits] using hx
end Go.Proofs.YtlcjaabnfdnfmaaGreatDoor.Gen
namespace Go.Proofs.YtlcjaabnfdnfmaaGreatDoor.Gen
open ChangeShapes WideShapes ChangeAt RowKit Joins Deep Base
def ansB (code n : Int) (k t : ByteArray) : Bool := Items.inB code 0 9 && Items.inB n (-1) 100000 && Items.textB k && Items.textB t
theorem four (p q r s : Bool) : p = false ∨ (p = true /\ q = false) ∨ (p = true /\ q = true /\ r = false) ∨ (p = true /\ q = true /\ r = true /\ s = false) ∨ (p = true /\ q = true /\ r = true /\ s = true) := by
 cases p<;>cases q<;>cases r<;>cases s<;>simp
theorem Qfs (code n : Int) (k t : ByteArray) (hk : k.size <= 9223372036854775807) (ht : t.size <= 9223372036854775807) (w : World) :
 Calls Tryz.prog 83 #[.agg #[.int .i64 code, .int .i64 n, .string k, .string t]] w fun e w' => e = .returned (.bool (ansB code n k t)) /\ Below w.heap.size w w' := by
 rcases four (Items.inB code 0 9) (Items.inB n (-1) 100000) (Items.textB k) (Items.textB t) with h1 | ⟨h1, h2⟩ | ⟨h1, h2, h3⟩ | ⟨h1, h2, h3, h4⟩ | ⟨h1, h2, h3, h4⟩
 all_goals
  go_enter Tryz.func83, Tryz.ntmps83
  have q1 : w.heap.size < w.heap.size + 1 := Nat.lt_succ_self _
  go_wp2_with (first
   | (go_at_call 11; refine (Items.in_any _ _ _ _).mono ?_; rintro e w' ⟨rfl, rfl⟩)
   | (go_at_call_of 127 (Value.string k); refine (Items.specText_any k hk _).mono ?_; rintro e w1 ⟨rfl, g1⟩; obtain ⟨c1, f1⟩ := Qaj g1; have s1 := g1.size; try simp at s1; have q1 : w.heap.size < w1.heap.size := by omega)
   | (go_at_call_of 127 (Value.string t); refine (Items.specText_any t ht _).mono ?_; rintro e w1 ⟨rfl, g1⟩; obtain ⟨c1, f1⟩ := Qaj g1; have s1 := g1.size; try simp at s1; have q1 : w.heap.size < w1.heap.size := by omega))
  go_ret
  refine ⟨by simp [ansB, *], ?_⟩
  repeat (first | exact Below.refl _ _ | assumption | refine via0 (by assumption) ?_ | refine Below.drew ?_ | refine Qaa ?_ _)
theorem Qf8 (code n : Int) (k t : ByteArray) (hk : k.size <= 9223372036854775807) (ht : t.size <= 9223372036854775807) (w : World) :
 Calls Tryz.prog 111 #[.agg #[.int .i64 code, .int .i64 n, .string k, .string t]] w fun e w' => e = .returned (.bool (ansB code n k t)) /\ Below w.heap.size w w' := by
 rcases four (Items.inB code 0 9) (Items.inB n (-1) 100000) (Items.textB k) (Items.textB t) with h1 | ⟨h1, h2⟩ | ⟨h1, h2, h3⟩ | ⟨h1, h2, h3, h4⟩ | ⟨h1, h2, h3, h4⟩
 all_goals
  go_enter Tryz.func111, Tryz.ntmps111
  have q1 : w.heap.size < w.heap.size + 1 := Nat.lt_succ_self _
  go_wp2_with (first
   | (go_at_call 44; refine (Items.within_any _ _ _ _).mono ?_; rintro e w' ⟨rfl, rfl⟩)
   | (go_at_call_of 150 (Value.string k); refine (Items.implText_any k hk _).mono ?_; rintro e w1 ⟨rfl, g1⟩; obtain ⟨c1, f1⟩ := Qaj g1; have s1 := g1.size; try simp at s1; have q1 : w.heap.size < w1.heap.size := by omega)
   | (go_at_call_of 150 (Value.string t); refine (Items.implText_any t ht _).mono ?_; rintro e w1 ⟨rfl, g1⟩; obtain ⟨c1, f1⟩ := Qaj g1; have s1 := g1.size; try simp at s1; have q1 : w.heap.size < w1.heap.size := by omega))
  go_ret
  refine ⟨by simp [ansB, *], ?_⟩
  repeat (first | exact Below.refl _ _ | assumption | refine via0 (by assumption) ?_ | refine Below.drew ?_ | refine Qaa ?_ _)
end Go.Proofs.YtlcjaabnfdnfmaaGreatDoor.Gen
namespace Go.Proofs.YtlcjaabnfdnfmaaGreatDoor.Gen
open ChangeShapes WideShapes ChangeAt RowKit Base
structure Off (F : List Nat) (w w' : World) : Prop where
  os : w'.os = w.os
  tape : w'.tape = w.tape
  output : w'.output = w.output
  size : w.heap.size <= w'.heap.size
  block : ∀ k, k < w.heap.size -> k ∉ F -> w'.heap[k]? = w.heap[k]?
theorem Off.refl (F : List Nat) (w : World) : Off F w w := ⟨rfl, rfl, rfl, Nat.le_refl _, fun _ _ _ => rfl⟩
theorem Off.trans {F G : List Nat} {w w1 w2 : World} (h : Off F w w1) (k : Off G w1 w2) : Off (F ++ G) w w2 :=
 ⟨k.os.trans h.os, k.tape.trans h.tape, k.output.trans h.output, Nat.le_trans h.size k.size, fun i hi hb => (k.block i (Nat.lt_of_lt_of_le hi h.size) (fun e => hb (List.mem_append_right _ e))).trans (h.block i hi (fun e => hb (List.mem_append_left _ e)))⟩
theorem Off.of_below {w w1 : World} (h : Below w.heap.size w w1) : Off [] w w1 := ⟨h.os, h.tape, h.output, h.size, fun i hi _ => h.block i hi⟩
theorem Off.of_only {b : Nat} {w w1 : World} (h : Only b w w1) : Off [b] w w1 := ⟨h.os, h.tape, h.output, h.size, fun i hi hb => h.block i hi (fun e => hb (by simp [e]))⟩
theorem Off.cell {F : List Nat} {w w1 : World} (h : Off F w w1) {p : Addr} (hp : p.block < w.heap.size) (hb : p.block ∉ F) : w1.cell? p = w.cell? p := World.cell?_of_block (h.block p.block hp hb)
theorem Off.frozen {F : List Nat} {w w1 : World} (h : Off F w w1) {p : Addr} (hp : p.block < w.heap.size) (hb : p.block ∉ F) : w1.frozen? p = w.frozen? p := by
 unfold World.frozen?; rw [h.block p.block hp hb]
section
variable {α : Type} [Cel α]
theorem In.off {F : List Nat} {c o : Nat} {w w1 : World} {l : List α} (h : In w c o l) (k : Off F w w1) (hc : c < w.heap.size) (hb : c ∉ F) : In w1 c o l :=
 fun j v hv => (k.cell (p := ⟨c, o + j, none⟩) hc hb).trans (h j v hv)
theorem there_off {F : List Nat} {c o n : Nat} {w w1 : World} (h : w.there c o n) (k : Off F w w1) (hc : c < w.heap.size) (hb : c ∉ F) : w1.there c o n := fun j hj => by
 rw [k.cell (p := ⟨c, o + j, none⟩) hc hb, k.frozen (p := ⟨c, o + j, none⟩) hc hb]; exact h j hj
def Sl (w : World) (a : Option Addr) (l : List α) (F : List Nat) : Prop :=
  (l = [] /\ F = []) ∨ ∃ b o, a = some ⟨b, o, none⟩ /\ F = [b] /\ b < w.heap.size /\ In w b o l /\ w.there b o (l.length * Cel.k α)
theorem Sl.off {F G : List Nat} {w w1 : World} {a : Option Addr} {l : List α} (h : Sl w a l F) (k : Off G w w1) (hd : ∀ x ∈ F, x ∉ G) : Sl w1 a l F := by
 rcases h with h | ⟨b, o, rfl, rfl, hb, hi, ht⟩
 . exact .inl h
 . have := hd b (by simp)
   exact .inr ⟨b, o, rfl, rfl, Nat.lt_of_lt_of_le hb k.size, hi.off k hb this, there_off ht k hb this⟩
theorem Sl.below {F : List Nat} {w w1 : World} {a : Option Addr} {l : List α} (h : Sl w a l F) (k : Below w.heap.size w w1) : Sl w1 a l F := h.off (Off.of_below k) (by simp)
theorem Sl.lt {F : List Nat} {w : World} {a : Option Addr} {l : List α} (h : Sl w a l F) : ∀ x ∈ F, x < w.heap.size := by
 rcases h with ⟨_, rfl⟩ | ⟨b, o, _, rfl, hb, _⟩
 . simp
 . simpa using hb
theorem Sl.nil (w : World) (a : Option Addr) : Sl w a ([] : List α) [] := .inl ⟨rfl, rfl⟩
end
end Go.Proofs.YtlcjaabnfdnfmaaGreatDoor.Gen
namespace Go.Proofs.YtlcjaabnfdnfmaaGreatDoor.Gen
open ChangeShapes WideShapes ChangeAt RowKit Base
structure Offp (S : Nat -> Prop) (w w' : World) : Prop where
  os : w'.os = w.os
  tape : w'.tape = w.tape
  output : w'.output = w.output
  size : w.heap.size <= w'.heap.size
  block : ∀ k, k < w.heap.size -> ¬ S k -> w'.heap[k]? = w.heap[k]?
theorem Offp.refl (S : Nat -> Prop) (w : World) : Offp S w w := ⟨rfl, rfl, rfl, Nat.le_refl _, fun _ _ _ => rfl⟩
theorem Offp.trans {S : Nat -> Prop} {w w1 w2 : World} (h : Offp S w w1) (k : Offp S w1 w2) : Offp S w w2 :=
 ⟨k.os.trans h.os, k.tape.trans h.tape, k.output.trans h.output, Nat.le_trans h.size k.size, fun i hi hb => (k.block i (Nat.lt_of_lt_of_le hi h.size) hb).trans (h.block i hi hb)⟩
theorem Offp.mono {S T : Nat -> Prop} {w w1 : World} (h : Offp S w w1) (s : ∀ x, S x -> T x) : Offp T w w1 := ⟨h.os, h.tape, h.output, h.size, fun i hi hb => h.block i hi (fun e => hb (s i e))⟩
theorem Offp.of_below {S : Nat -> Prop} {w w1 : World} (h : Below w.heap.size w w1) : Offp S w w1 := ⟨h.os, h.tape, h.output, h.size, fun i hi _ => h.block i hi⟩
theorem Offp.of_only {b : Nat} {w w1 : World} (h : Only b w w1) : Offp (fun x => x = b) w w1 := ⟨h.os, h.tape, h.output, h.size, fun i hi hb => h.block i hi hb⟩
theorem Offp.of_off {F : List Nat} {w w1 : World} (h : Off F w w1) : Offp (fun x => x ∈ F) w w1 := ⟨h.os, h.tape, h.output, h.size, fun i hi hb => h.block i hi hb⟩
theorem Offp.below {S : Nat -> Prop} {w w1 w2 : World} (h : Offp S w w1) (k : Below w1.heap.size w1 w2) : Offp S w w2 := h.trans (Offp.of_below k)
theorem Offp.set {S : Nat -> Prop} {w w1 : World} (h : Offp S w w1) {b : Nat} (hb : S b) (o : Nat) (v : Value) : Offp S w (w1.setCell ⟨b, o, none⟩ v) :=
 h.trans ((Offp.of_only ((Only.refl b w1).set o v)).mono (fun x e => e ▸ hb))
theorem Offp.toBelow {S : Nat -> Prop} {B : Nat} {w w1 : World} (h : Offp S w w1) (hF : ∀ x, S x -> B <= x) (hw : B <= w.heap.size) : Below B w w1 :=
 ⟨h.os, h.tape, h.output, h.size, fun i hi => h.block i (by omega) (fun e => by have := hF i e; omega)⟩
theorem Offp.cell {S : Nat -> Prop} {w w1 : World} (h : Offp S w w1) {p : Addr} (hp : p.block < w.heap.size) (hb : ¬ S p.block) : w1.cell? p = w.cell? p := World.cell?_of_block (h.block p.block hp hb)
theorem Offp.frozen {S : Nat -> Prop} {w w1 : World} (h : Offp S w w1) {p : Addr} (hp : p.block < w.heap.size) (hb : ¬ S p.block) : w1.frozen? p = w.frozen? p := by
 unfold World.frozen?; rw [h.block p.block hp hb]
theorem Blk.offp {S : Nat -> Prop} {W W' : World} {B : Nat} {t : TypeId} {vs : Array Value} (h : Blk W B t vs) (k : Offp S W W') (hne : ¬ S B) : Blk W' B t vs := (k.block B h.lt hne).trans h
theorem Qcq {S : Nat -> Prop} {c o n : Nat} {w w1 : World} (h : w.there c o n) (k : Offp S w w1) (hc : c < w.heap.size) (hb : ¬ S c) : w1.there c o n := fun j hj => by
 rw [k.cell (p := ⟨c, o + j, none⟩) hc hb, k.frozen (p := ⟨c, o + j, none⟩) hc hb]; exact h j hj
section
variable {α : Type} [Cel α]
theorem In.offp {S : Nat -> Prop} {c o : Nat} {w w1 : World} {l : List α} (h : In w c o l) (k : Offp S w w1) (hc : c < w.heap.size) (hb : ¬ S c) : In w1 c o l :=
 fun j v hv => (k.cell (p := ⟨c, o + j, none⟩) hc hb).trans (h j v hv)
def Sub (w : World) (a : Option Addr) (l : List α) (S : Nat -> Prop) : Prop :=
  l = [] ∨ ∃ b o, a = some ⟨b, o, none⟩ /\ S b /\ b < w.heap.size /\ In w b o l /\ w.there b o (l.length * Cel.k α)
theorem Sub.offp {S T : Nat -> Prop} {w w1 : World} {a : Option Addr} {l : List α} (h : Sub w a l S) (k : Offp T w w1) (hd : ∀ x, S x -> ¬ T x) : Sub w1 a l S :=
 h.imp id fun ⟨b, o, e, hs, hb, hi, ht⟩ => ⟨b, o, e, hs, Nat.lt_of_lt_of_le hb k.size, hi.offp k hb (hd b hs), Qcq ht k hb (hd b hs)⟩
theorem Sub.mono {S T : Nat -> Prop} {w : World} {a : Option Addr} {l : List α} (h : Sub w a l S) (s : ∀ x, S x -> T x) : Sub w a l T :=
 h.imp id fun ⟨b, o, e, hs, r⟩ => ⟨b, o, e, s b hs, r⟩
theorem Sub.at {S : Nat -> Prop} {w : World} {a : Option Addr} {l : List α} (h : Sub w a l S) : At w a l :=
 h.imp id fun ⟨b, o, e, _, hb, hi, _⟩ => ⟨b, o, e, hb, hi⟩
theorem Sub.below {S : Nat -> Prop} {w w1 : World} {a : Option Addr} {l : List α} (h : Sub w a l S) (k : Below w.heap.size w w1) : Sub w1 a l S :=
 h.offp (Offp.of_below (S := fun _ => False) k) (fun _ _ e => e)
theorem Qh3 (l : List α) (n : Nat) (hn : n < l.length) (y : α) (f : Nat) (hf : f < Cel.k α) (v : Value) (hy : Cel.cs y = (Cel.cs l[n]).set f v) : flat (l.set n y) = (flat l).set (n * Cel.k α + f) v := by
 induction l generalizing n with
 | nil => simp at hn
 | cons x l ih =>
  cases n with
  | zero =>
   simp only [List.set_cons_zero, Qcx, Nat.zero_mul, Nat.zero_add]
   rw [List.set_append_left _ _ (by rw [Cel.len]; exact hf), hy]; rfl
  | succ n =>
   simp only [List.set_cons_succ, Qcx]
   rw [ih n (by simpa using hn) (by simpa using hy), List.set_append_right _ _ (by rw [Cel.len, Nat.add_mul]; omega), Cel.len]
   congr 2
   rw [Nat.add_mul]; omega
theorem In.set1 {w : World} {b o : Nat} {l : List α} (h : In w b o l) (n : Nat) (hn : n < l.length) (y : α) (f : Nat) (hf : f < Cel.k α) (v : Value) (hy : Cel.cs y = (Cel.cs l[n]).set f v) : In (w.setCell ⟨b, o + n * Cel.k α + f, none⟩ v) b o (l.set n y) := by
 intro j u hu
 rw [Qh3 l n hn y f hf v hy] at hu
 by_cases e : n * Cel.k α + f = j
 . subst e
   rw [List.getElem?_set_self (by rw [Qap]; have : (n + 1) * Cel.k α <= l.length * Cel.k α := Nat.mul_le_mul_right _ hn; rw [Nat.add_mul] at this; omega)] at hu
   cases hu
   have hc := h.cell n hn (f := f) (v := (Cel.cs l[n])[f]'(by rw [Cel.len]; exact hf)) (List.getElem?_eq_getElem _)
   rw [← Nat.add_assoc]
   exact World.cell?_setCell_same' _ _ _ (by rw [hc]; rfl)
 . rw [List.getElem?_set_ne e] at hu
   rw [World.cell?_setCell_other (h := fun ee => by have := congrArg Addr.off ee; simp only at this; omega)]
   exact h j u hu
variable {P : World -> α -> (Nat -> Prop) -> Prop}
def Firm (P : World -> α -> (Nat -> Prop) -> Prop) : Prop := ∀ (w w' : World) (x : α) (S T : Nat -> Prop), P w x S -> Offp T w w' -> (∀ y, S y -> ¬ T y) -> P w' x S
structure OwnF (P : World -> α -> (Nat -> Prop) -> Prop) (w : World) (b o : Nat) (l : List α) (fp : Nat -> Nat -> Prop) : Prop where
  lt : b < w.heap.size
  lst : In w b o l
  th : w.there b o (l.length * Cel.k α)
  sub : ∀ (i : Nat) (h : i < l.length), P w l[i] (fp i)
  dis : ∀ i j, i ≠ j -> ∀ x, fp i x -> ¬ fp j x
  nb : ∀ i, ¬ fp i b
theorem OwnF.offp (hP : Firm P) {w w' : World} {b o : Nat} {l : List α} {fp : Nat -> Nat -> Prop} {T : Nat -> Prop} (h : OwnF P w b o l fp) (k : Offp T w w') (hb : ¬ T b) (hd : ∀ i x, fp i x -> ¬ T x) : OwnF P w' b o l fp :=
 ⟨Nat.lt_of_lt_of_le h.lt k.size, h.lst.offp k h.lt hb, Qcq h.th k h.lt hb, fun i hi => hP _ _ _ _ _ (h.sub i hi) k (hd i), h.dis, h.nb⟩
theorem OwnF.below (hP : Firm P) {w w' : World} {b o : Nat} {l : List α} {fp : Nat -> Nat -> Prop} (h : OwnF P w b o l fp) (k : Below w.heap.size w w') : OwnF P w' b o l fp :=
 h.offp hP (Offp.of_below (S := fun _ => False) k) (fun e => e) (fun _ _ _ e => e)
theorem OwnF.set1 (hP : Firm P) {w : World} {b o : Nat} {l : List α} {fp : Nat -> Nat -> Prop} (h : OwnF P w b o l fp) (n : Nat) (hn : n < l.length) (y : α) (f : Nat) (hf : f < Cel.k α) (v : Value) (hy : Cel.cs y = (Cel.cs l[n]).set f v)
 (hs : ∀ W S, P W l[n] S -> P W y S) : OwnF P (w.setCell ⟨b, o + n * Cel.k α + f, none⟩ v) b o (l.set n y) fp := by
 have k : Offp (fun x => x = b) w (w.setCell ⟨b, o + n * Cel.k α + f, none⟩ v) := Offp.of_only ((Only.refl b w).set _ v)
 refine ⟨by simpa using h.lt, h.lst.set1 n hn y f hf v hy, by rw [List.length_set]; exact Qhy h.th _ _ _, fun i hi => ?_, h.dis, h.nb⟩
 have hi' : i < l.length := by simpa using hi
 have hk : P (w.setCell ⟨b, o + n * Cel.k α + f, none⟩ v) l[i] (fp i) := hP _ _ _ _ _ (h.sub i hi') k (fun y hy e => h.nb i (e ▸ hy))
 by_cases e : n = i
 . subst e
   rw [List.getElem_set_self]
   exact hs _ _ hk
 . rw [List.getElem_set_ne e]; exact hk
theorem OwnF.turn (hP : Firm P) {w w' : World} {b o : Nat} {l : List α} {fp : Nat -> Nat -> Prop} (h : OwnF P w b o l fp) (n : Nat) (hn : n < l.length) (y : α) (hc : Cel.cs y = Cel.cs l[n]) (k : Offp (fp n) w w') (hy : P w' y (fp n)) : OwnF P w' b o (l.set n y) fp := by
 refine ⟨Nat.lt_of_lt_of_le h.lt k.size, ?_, ?_, fun i hi => ?_, h.dis, h.nb⟩
 . have e : flat (l.set n y) = flat l := by
    unfold flat
    rw [List.flatMap_def, List.flatMap_def, List.map_set, hc, ← List.map_set, List.set_getElem_self]
   show w'.rangeAt b o _
   rw [e]
   exact h.lst.offp k h.lt (h.nb n)
 . rw [List.length_set]; exact Qcq h.th k h.lt (h.nb n)
 . have hi' : i < l.length := by simpa using hi
   by_cases e : n = i
   . subst e; rw [List.getElem_set_self]; exact hy
   . rw [List.getElem_set_ne e]; exact hP _ _ _ _ _ (h.sub i hi') k (fun x hx => h.dis i n (fun e' => e e'.symm) x hx)
def Own (P : World -> α -> (Nat -> Prop) -> Prop) (w : World) (a : Option Addr) (l : List α) (S : Nat -> Prop) : Prop :=
  l = [] ∨ ∃ b o fp, a = some ⟨b, o, none⟩ /\ S b /\ (∀ i x, fp i x -> S x) /\ OwnF P w b o l fp
theorem Own.offp (hP : Firm P) {S T : Nat -> Prop} {w w1 : World} {a : Option Addr} {l : List α} (h : Own P w a l S) (k : Offp T w w1) (hd : ∀ x, S x -> ¬ T x) : Own P w1 a l S :=
 h.imp id fun ⟨b, o, fp, e, hs, hf, hO⟩ => ⟨b, o, fp, e, hs, hf, hO.offp hP k (hd b hs) (fun i x hx => hd x (hf i x hx))⟩
theorem Own.below (hP : Firm P) {S : Nat -> Prop} {w w1 : World} {a : Option Addr} {l : List α} (h : Own P w a l S) (k : Below w.heap.size w w1) : Own P w1 a l S :=
 h.offp hP (Offp.of_below (S := fun _ => False) k) (fun _ _ e => e)
theorem Own.mono {S T : Nat -> Prop} {w : World} {a : Option Addr} {l : List α} (h : Own P w a l S) (s : ∀ x, S x -> T x) : Own P w a l T :=
 h.imp id fun ⟨b, o, fp, e, hs, hf, hO⟩ => ⟨b, o, fp, e, s b hs, fun i x hx => s x (hf i x hx), hO⟩
theorem Own.at {S : Nat -> Prop} {w : World} {a : Option Addr} {l : List α} (h : Own P w a l S) : At w a l :=
 h.imp id fun ⟨b, o, fp, e, _, _, hO⟩ => ⟨b, o, e, hO.lt, hO.lst⟩
theorem Own.each {S : Nat -> Prop} {w : World} {a : Option Addr} {l : List α} (h : Own P w a l S) {Q : α -> Prop} (hQ : ∀ x S, P w x S -> Q x) : ∀ x ∈ l, Q x := by
 rcases h with rfl | ⟨b, o, fp, e, _, _, hO⟩
 . simp
 . intro x hx
   obtain ⟨i, hi, rfl⟩ := List.getElem_of_mem hx
   exact hQ _ _ (hO.sub i hi)
end
theorem Qcc {W W' : World} {row : Option Nat} (h : W.grownBy W' row) : Offp (fun x => row = some x) W W' := ⟨h.os, h.tape, h.output, h.size, fun k hk hn => h.block k hk (fun e => hn e.symm)⟩
theorem Qct {B : Nat} {W W' : World} {v : Value} {t : TypeId} {k n : Nat} {xs : List Value} {S : Nat -> Prop} (h : W.ownsRow B t k v n xs) (hg : Offp S W W') (hne : ∀ x, v.ownBlock = some x -> ¬ S x) : W'.ownsRow B t k v n xs := by
 refine ⟨h.1, ?_⟩
 rcases h.2 with ⟨rfl, rfl⟩ | ⟨g, c, cur, rfl, hB, hb, hc, hm, hsz, ht⟩
 . exact .inl ⟨rfl, rfl⟩
 . exact .inr ⟨g, c, cur, rfl, hB, Blk.offp (show Blk W g t cur from hb) hg (hne g rfl), hc, hm, hsz, ht⟩
section
variable {α : Type}
def marked (m : α -> Int -> α) (c : α -> Nat) : List α -> Int -> List α
  | [], _ => []
  | x :: l, z => m x z :: marked m c l (z + c x)
def Qac (c : α -> Nat) (l : List α) : Nat := (l.map c).sum
theorem Qa8 (m : α -> Int -> α) (c : α -> Nat) (l : List α) : ∀ z, (marked m c l z).length = l.length := by
 induction l with
 | nil => intro z; rfl
 | cons x l ih => intro z; simp [marked, ih]
theorem Qas (c : α -> Nat) (l : List α) (n : Nat) (hn : n < l.length) : Qac c (l.take (n + 1)) = Qac c (l.take n) + c l[n] := by
 unfold Qac; rw [List.take_succ_eq_append_getElem hn, List.map_append, List.sum_append]; simp
theorem Qcl (c : α -> Nat) (l : List α) (n : Nat) : Qac c (l.take n) <= Qac c l := by
 have e : Qac c l = Qac c (l.take n) + Qac c (l.drop n) := by
  unfold Qac; rw [← List.sum_append, ← List.map_append, List.take_append_drop]
 omega
theorem Qb6 (c : α -> Nat) (l : List α) (n : Nat) (hn : l.length <= n) : Qac c (l.take n) = Qac c l := by rw [List.take_of_length_le hn]
def half (m : α -> Int -> α) (c : α -> Nat) (l : List α) (k : Int) (n : Nat) : List α := marked m c (l.take n) k ++ l.drop n
theorem Qdz (m : α -> Int -> α) (c : α -> Nat) (l : List α) (k : Int) : half m c l k 0 = l := by simp [half, marked]
theorem Qev (m : α -> Int -> α) (c : α -> Nat) (l : List α) (k : Int) (n : Nat) (hn : l.length <= n) : half m c l k n = marked m c l k := by simp [half, List.take_of_length_le hn, List.drop_eq_nil_of_le hn]
theorem Qc3 (m : α -> Int -> α) (c : α -> Nat) (l : List α) (k : Int) (n : Nat) : (half m c l k n).length = l.length := by
 simp only [half, List.length_append, Qa8, List.length_take, List.length_drop]; omega
theorem Qeu (m : α -> Int -> α) (c : α -> Nat) (l : List α) (k : Int) (n : Nat) (hn : n < l.length) (h : n < (half m c l k n).length) : (half m c l k n)[n] = l[n] := by
 have hl : (marked m c (l.take n) k).length = n := by rw [Qa8, List.length_take]; omega
 simp only [half]
 rw [List.getElem_append_right (by omega)]
 simp [hl]
theorem Qg4 (m : α -> Int -> α) (c : α -> Nat) (l r : List α) : ∀ k, marked m c (l ++ r) k = marked m c l k ++ marked m c r (k + Qac c l) := by
 induction l with
 | nil => intro k; simp [marked, Qac]
 | cons x l ih =>
  intro k
  have e : k + (c x : Int) + (Qac c l : Int) = k + (Qac c (x :: l) : Int) := by simp only [Qac, List.map_cons, List.sum_cons]; omega
  simp only [List.cons_append, marked, ih, e]
theorem Qd0 (m : α -> Int -> α) (c : α -> Nat) (l : List α) (k : Int) (n : Nat) (hn : n < l.length) : half m c l k (n + 1) = (half m c l k n).set n (m l[n] (k + Qac c (l.take n))) := by
 have hl : (marked m c (l.take n) k).length = n := by rw [Qa8, List.length_take]; omega
 unfold half
 rw [List.take_succ_eq_append_getElem hn, Qg4, List.set_append_right _ _ (by omega), hl, Nat.sub_self, List.drop_eq_getElem_cons hn, List.append_assoc]
 rfl
theorem Qdf (m : α -> Int -> α) (c : α -> Nat) (l : List α) (n : Nat) (hn : n < l.length) : ∀ (k : Int) (h : n < (marked m c l k).length), (marked m c l k)[n] = m l[n] (k + Qac c (l.take n)) := by
 induction l generalizing n with
 | nil => simp at hn
 | cons x l ih =>
  intro k h
  cases n with
  | zero => simp [marked, Qac]
  | succ n =>
   simp only [marked, List.getElem_cons_succ]
   have e : k + (c x : Int) + (Qac c (l.take n) : Int) = k + (Qac c ((x :: l).take (n + 1)) : Int) := by simp only [Qac, List.take_succ_cons, List.map_cons, List.sum_cons]; omega
   rw [ih n (by simpa using hn), e]
end
end Go.Proofs.YtlcjaabnfdnfmaaGreatDoor.Gen
