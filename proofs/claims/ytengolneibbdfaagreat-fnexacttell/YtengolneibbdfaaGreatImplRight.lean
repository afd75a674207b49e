/-
  The program's isRightItem and rowOf.ascends at this seat.
-/
import Derived.Test.YtengolneibbdfaaGreatTold
import Derived.Test.YtengolneibbdfaaGreatTexts
import Derived.Test.YtengolneibbdfaaGreatAnsList
import Derived.Test.YtengolneibbdfaaGreatAns
import Derived.Laws.MakeOwn
namespace Go.Proofs.YtengolneibbdfaaGreat.Items
open Go.ChangeShapes Go.WideShapes Go.ChangeAt Go.RowKit Go.Shelf Base
set_option linter.unusedVariables false
theorem Blk.row {W : World} {B : Nat} {t : TypeId} {a b c : Value} (h : Blk W B t #[a, b, c]) :
    W.cell? ⟨B, 0, none⟩ = some a /\ W.cell? ⟨B, 1, none⟩ = some b /\ W.cell? ⟨B, 2, none⟩ = some c :=
  ⟨h.cell rfl, h.cell rfl, h.cell rfl⟩
end Go.Proofs.YtengolneibbdfaaGreat.Items

/-
  The program's rowOf.hasOnly (at isRightItem) and RowOk at this seat.
-/
namespace Go.Proofs.YtengolneibbdfaaGreat.Items
open Go.ChangeShapes Go.WideShapes Go.ChangeAt Go.RowKit Go.Shelf Base
set_option linter.unusedVariables false
attribute [local go_sem] Oper.semAt_some
def ahead (p : Option Int) (x : Int) : Bool := match p with | none => true | some o => decide (o < x)
end Go.Proofs.YtengolneibbdfaaGreat.Items

/-
  Blocks of one's own that are written: an item stored; what a round keeps.
-/
namespace Go.Proofs.YtengolneibbdfaaGreat.Items
open Go.ChangeShapes Go.WideShapes Go.ChangeAt Go.RowKit Go.Shelf Base
set_option linter.unusedVariables false
theorem Blk.thaw {W : World} {B : Nat} {t : TypeId} {vs : Array Value} (h : Blk W B t vs) (i : Nat) : W.frozen? ⟨B, i, none⟩ = false := by simp [World.frozen?, show W.heap[B]? = _ from h]
theorem Blk.setAt {W : World} {B : Nat} {t : TypeId} {vs : Array Value} (h : Blk W B t vs) (i : Nat) (v : Value) : Blk (W.setCell ⟨B, i, none⟩ v) B t (vs.setIfInBounds i v) := by
  obtain ⟨hlt, hk⟩ := Array.getElem?_eq_some_iff.1 h
  show (W.heap.modify B _)[B]? = _
  rw [Array.getElem?_eq_getElem (by rw [Array.size_modify]; exact hlt), Array.getElem_modify_self, hk]
  rfl
theorem Blk.drew {W : World} {B : Nat} {t : TypeId} {vs : Array Value} (h : Blk W B t vs) : Blk W.drew B t vs := h
theorem bl_set {n : Nat} {a b : World} (h : Below n a b) {B i : Nat} (hn : n <= B) (v : Value) : Below n a (b.setCell ⟨B, i, none⟩ v) := h.setCell (p := ⟨B, i, none⟩) hn v
end Go.Proofs.YtengolneibbdfaaGreat.Items

/-
  The laws' toItem, toItemS and toRow: a row in new memory that holds the same items. No condition but that the items are at most 1048576.
-/
namespace Go.Proofs.YtengolneibbdfaaGreat.Items
open Go.ChangeShapes Go.WideShapes Go.ChangeAt Go.RowKit Base
set_option linter.unusedVariables false
theorem toItem_any (off who time : Int) (k t : ByteArray) (w : World) :
    Calls Tryz.prog 205 #[.agg #[.int .i64 off, .string k, .string t, .int .i64 who, .int .i64 time]] w fun e w' => e = .returned (.agg #[.int .i64 off, .string k, .string t, .int .i64 who, .int .i64 time]) /\ Below w.heap.size w w' := by
  go_enter Tryz.func205, Tryz.ntmps205
  go_wp2
  exact bodyPost_ret (v := .agg #[.int .i64 off, .string k, .string t, .int .i64 who, .int .i64 time]) (by simp [results, Tryz.results205, go_sem]) rfl ⟨rfl, by repeat (first | exact Below.refl _ _ | refine via0 (by assumption) ?_ | refine Below.drew ?_ | refine alloc0 ?_ _)⟩
def zeroItem : Value := .agg #[.int .i64 0, .string ⟨#[]⟩, .string ⟨#[]⟩, .int .i64 0, .int .i64 0]
def zeros (n : Nat) : Array Value := madeCells zeroItem.cells (n * 5)
theorem infoItem : (Tryz.prog.info? 199).map (fun i => (i.zero, i.size, i.bytes)) = some (some zeroItem, 5, 56) := by kernel_rfl
theorem make_items (n : Nat) (hn : n <= 1048576) (w : World) :
    (Instr.makeSlice 134 (.int .i64 (n : Int)) (.int .i64 (n : Int))).run Tryz.prog w = .ok (.slice (some ⟨w.heap.size, 0, none⟩) n n) (w.alloc (.cells (zeros n) 199)) := by
  have h := infoItem
  cases hi : Tryz.prog.info? 199 with
  | none => rw [hi] at h; simp at h
  | some i =>
    rw [hi] at h
    simp only [Option.map_some, Option.some.injEq, Prod.mk.injEq] at h
    obtain ⟨hz, hs, hb⟩ := h
    have r := run_make (P := Tryz.prog) w 134 199 i zeroItem Tryz.underlying134 hi hz .i64 .i64 n n (by omega) (Int.le_refl _) (by rw [hb]; omega) (by omega)
    rw [r, hs]
    simp [zeros]
theorem zeros_size (n : Nat) : (zeros n).size = n * 5 := size_madeCells _ _
theorem rangeAt_append {w : World} {b o : Nat} {xs ys : List Value} (h1 : w.rangeAt b o xs) (h2 : w.rangeAt b (o + xs.length) ys) : w.rangeAt b o (xs ++ ys) := fun j v hv => by
  by_cases hj : j < xs.length
  . exact h1 j v (by rwa [List.getElem?_append_left hj] at hv)
  . rw [List.getElem?_append_right (by omega)] at hv
    have := h2 (j - xs.length) v hv
    have e : o + xs.length + (j - xs.length) = o + j := by omega
    rwa [e] at this
theorem there_below {w w' : World} {b o n : Nat} (h : w.there b o n) (hb : b < w.heap.size) (hw : Below w.heap.size w w') : w'.there b o n := fun j hj => by
  rw [hw.cell (p := ⟨b, o + j, none⟩) hb, hw.frozen (p := ⟨b, o + j, none⟩) hb]
  exact h j hj
theorem store_item {w : World} {b : Nat} {l : List It} {n : Nat} (hin : In w b 0 (l.take n)) (hth : w.there b 0 (l.length * 5)) (hn : n < l.length) :
    In (w.setCells b (n * 5) l[n].cs) b 0 (l.take (n + 1)) /\ (w.setCells b (n * 5) l[n].cs).there b 0 (l.length * 5) := by
  have hlen : (flat (l.take n)).length = n * 5 := by rw [flat_length, List.length_take]; omega
  refine ⟨?_, World.there_setCells hth _ _ _⟩
  unfold In
  rw [List.take_succ_eq_append_getElem hn, flat_append, flat_one]
  refine rangeAt_append (World.rangeAt_setCells_apart hin _ _ _ (.inr (.inl (by rw [hlen]; omega)))) ?_
  rw [hlen, Nat.zero_add]
  refine World.rangeAt_setCells_same _ _ _ _ fun j hj => ?_
  have hj' : j < 5 := hj
  have := hth (n * 5 + j) (by omega)
  rwa [Nat.zero_add] at this
theorem made_there (w : World) (n : Nat) : (w.alloc (.cells (zeros n) 199)).there w.heap.size 0 (n * 5) := fun j hj => by
  have : j < (zeros n).size := by rw [zeros_size]; exact hj
  simp [this]
theorem toItemS_any (A : Option Addr) (cap : Nat) (l : List It) (hl : l.length <= 1048576) (w : World)
    (hA : l = [] ∨ ∃ b o, A = some ⟨b, o, none⟩ /\ b < w.heap.size /\ In w b o l) :
    Calls Tryz.prog 186 #[.slice A l.length cap] w fun e w' => e = .returned (.slice (some ⟨w.heap.size, 0, none⟩) l.length l.length) /\ Below w.heap.size w w' /\ w.heap.size < w'.heap.size /\ In w' w.heap.size 0 l /\ w'.there w.heap.size 0 (l.length * 5) := by
  have HA : Hid (l = [] ∨ ∃ b o, A = some ⟨b, o, none⟩ /\ b < w.heap.size /\ In w b o l) := hA
  clear hA
  have hmk := make_items l.length hl
  go_enter Tryz.func186, Tryz.ntmps186
  go_wp2
  go_loopw [4] (fun i w' => ∃ (n : Nat), i = .int .i64 (n : Int) /\ n <= l.length /\ Below w.heap.size w w' /\ w.heap.size < w'.heap.size /\ Hid (In w' w.heap.size 0 (l.take n)) /\ Hid (w'.there w.heap.size 0 (l.length * 5))) (fun i _ => l.length - (intOf i).toNat)
  case atStart => exact ⟨0, rfl, by omega, by repeat (first | exact Below.refl _ _ | refine via0 (by assumption) ?_ | refine Below.drew ?_ | refine alloc0 ?_ _), by simp, fun j v hv => by simp [flat] at hv, made_there w _⟩
  case round =>
    obtain ⟨n, rfl, hn, hbl, hsz, hin, hth⟩ := hrel
    by_cases hlt : n < l.length
    . obtain ⟨b, o, rfl, hbs, hIn⟩ : ∃ b o, A = some ⟨b, o, none⟩ /\ b < w.heap.size /\ In w b o l := by
        rcases HA.out with h | h
        . subst h; simp at hlt
        . exact h
      obtain ⟨hc0, hc1, hc2, hc3, hc4⟩ := (hIn.below hbs hbl).get n hlt
      have hT : ∀ f, f < 5 -> (∃ v, wr.cell? ⟨w.heap.size, n * 5 + f, none⟩ = some v) /\ wr.frozen? ⟨w.heap.size, n * 5 + f, none⟩ = false := fun f hf => by
        have := hth.out (n * 5 + f) (by omega)
        rw [Nat.zero_add] at this
        exact ⟨Option.isSome_iff_exists.1 this.1, this.2⟩
      obtain ⟨⟨v0, d0⟩, f0⟩ := hT 0 (by omega)
      rw [Nat.add_zero] at d0 f0
      obtain ⟨⟨v1, d1⟩, f1⟩ := hT 1 (by omega)
      obtain ⟨⟨v2, d2⟩, f2⟩ := hT 2 (by omega)
      obtain ⟨⟨v3, d3⟩, f3⟩ := hT 3 (by omega)
      obtain ⟨⟨v4, d4⟩, f4⟩ := hT 4 (by omega)
      clear hT
      go_wp2_with (go_at_call 205; refine (toItem_any _ _ _ _ _ _).mono ?_; rintro e w1 ⟨rfl, g1⟩; obtain ⟨k1, m1⟩ := bcell g1; have s1 := g1.size)
      have hst := store_item (hin.out.below hsz g1) (there_below hth.out hsz g1) hlt
      refine ⟨⟨n + 1, by go_num, by omega, ?_, by simp; omega, hst.1, hst.2⟩, by simp [intOf]; omega⟩
      exact (((((via0 g1 hbl).setCell (Nat.le_refl _) _).setCell (Nat.le_refl _) _).setCell (Nat.le_refl _) _).setCell (Nat.le_refl _) _).setCell (Nat.le_refl _) _
    . have e : l.take n = l := List.take_of_length_le (by omega)
      go_wp2
      go_ret
      exact ⟨rfl, hbl, hsz, by have := hin.out; rwa [e] at this, hth.out⟩
theorem In.set {w : World} {b o : Nat} {l : List It} (h : In w b o l) (p : Addr) (v : Value) (hp : p.block ≠ b) : In (w.setCell p v) b o l := fun j u hu => by
  rw [World.cell?_setCell_other (h := fun e => hp (by rw [e]))]; exact h j u hu
theorem there_set {w : World} {b o n : Nat} (h : w.there b o n) (b' o' : Nat) (v : Value) : (w.setCell ⟨b', o', none⟩ v).there b o n := World.there_setCells h b' o' [v]
def Fresh (B : Nat) (w : World) (v : Value) (l : List It) : Prop :=
  ∃ (A : Option Addr) (c : Nat), v = .slice A l.length c /\ l.length <= c /\ (l = [] ∨ ∃ b o, A = some ⟨b, o, none⟩ /\ B <= b /\ b < w.heap.size /\ In w b o l /\ w.there b o (l.length * 5))
theorem toRow_any (start next : Int) (A : Option Addr) (cap : Nat) (l : List It) (hl : l.length <= 1048576) (w : World)
    (hA : l = [] ∨ ∃ b o, A = some ⟨b, o, none⟩ /\ b < w.heap.size /\ In w b o l) :
    Calls Tryz.prog 136 #[.agg #[.int .i64 start, .int .i64 next, .slice A l.length cap]] w
      fun e w' => ∃ b, e = .returned (.agg #[.int .i64 start, .int .i64 next, .slice (some ⟨b, 0, none⟩) l.length l.length]) /\ Below w.heap.size w w' /\ w.heap.size <= b /\ b < w'.heap.size /\ In w' b 0 l /\ w'.there b 0 (l.length * 5) := by
  have hA' : ∀ W : World, Below w.heap.size w W -> l = [] ∨ ∃ b o, A = some ⟨b, o, none⟩ /\ b < W.heap.size /\ In W b o l := fun W hW => by
    rcases hA with h | ⟨b, o, h1, h2, h3⟩
    . exact .inl h
    . exact .inr ⟨b, o, h1, Nat.lt_of_lt_of_le h2 hW.size, h3.below h2 hW⟩
  have HA : Hid (∀ W : World, Below w.heap.size w W -> l = [] ∨ ∃ b o, A = some ⟨b, o, none⟩ /\ b < W.heap.size /\ In W b o l) := hA'
  clear hA hA'
  go_enter Tryz.func136, Tryz.ntmps136
  go_wp2_with (go_at_call 186; refine (toItemS_any A cap l hl _ (HA.out _ ?_)).mono ?_; (repeat (first | exact Below.refl _ _ | refine via0 (by assumption) ?_ | refine Below.drew ?_ | refine alloc0 ?_ _)); rintro e w1 ⟨rfl, g1, s1, i1, t1⟩; obtain ⟨k1, m1⟩ := bcell g1)
  have i2 : In w1 (w.heap.size + 1 + 1 + 1) 0 l := by simpa using i1
  have t2 : w1.there (w.heap.size + 1 + 1 + 1) 0 (l.length * 5) := by simpa using t1
  have s2 : w.heap.size + 1 + 1 + 1 < w1.heap.size := by simpa using s1
  have g2 : Below w.heap.size w w1 := via0 g1 (by repeat (first | exact Below.refl _ _ | refine via0 (by assumption) ?_ | refine Below.drew ?_ | refine alloc0 ?_ _))
  refine bodyPost_ret (v := .agg #[.int .i64 start, .int .i64 next, .slice (some ⟨w.heap.size + 1 + 1 + 1, 0, none⟩) l.length l.length]) (by simp [results, Tryz.results136, go_sem, k1]) rfl ⟨w.heap.size + 1 + 1 + 1, rfl, ?_, by omega, by simp; omega, ?_, ?_⟩
  . exact ((((g2.setCell (by show _ <= w.heap.size + 1 + 1; omega) _).setCell (by show _ <= w.heap.size + 1; omega) _).setCell (by show _ <= w.heap.size + 1; omega) _).setCell (by show _ <= w.heap.size + 1; omega) _)
  . exact (((i2.set _ _ (by simp)).set _ _ (by simp)).set _ _ (by simp)).set _ _ (by simp)
  . exact there_set (there_set (there_set (there_set t2 _ _ _) _ _ _) _ _ _) _ _ _
end Go.Proofs.YtengolneibbdfaaGreat.Items
