/-
  Lists in blocks of their own, and what stays when some blocks alone turn: no condition.
-/
import Derived.Test.YteccgpakhbogpaaGen
namespace Go.Proofs.Yteccgpakhbogpaa.Gen
open Go.ChangeShapes Go.WideShapes Go.ChangeAt Go.RowKit Base
set_option linter.unusedVariables false

/-- Of what was there the blocks of F alone may have turned. -/
structure Off (F : List Nat) (w w' : World) : Prop where
  os : w'.os = w.os
  tape : w'.tape = w.tape
  output : w'.output = w.output
  size : w.heap.size ≤ w'.heap.size
  block : ∀ k, k < w.heap.size → k ∉ F → w'.heap[k]? = w.heap[k]?
theorem Off.refl (F : List Nat) (w : World) : Off F w w := ⟨rfl, rfl, rfl, Nat.le_refl _, fun _ _ _ => rfl⟩
theorem Off.trans {F G : List Nat} {w w1 w2 : World} (h : Off F w w1) (k : Off G w1 w2) : Off (F ++ G) w w2 :=
  ⟨k.os.trans h.os, k.tape.trans h.tape, k.output.trans h.output, Nat.le_trans h.size k.size, fun i hi hb => (k.block i (Nat.lt_of_lt_of_le hi h.size) (fun e => hb (List.mem_append_right _ e))).trans (h.block i hi (fun e => hb (List.mem_append_left _ e)))⟩
theorem Off.mono {F G : List Nat} {w w1 : World} (h : Off F w w1) (s : ∀ x ∈ F, x ∈ G) : Off G w w1 := ⟨h.os, h.tape, h.output, h.size, fun i hi hb => h.block i hi (fun e => hb (s i e))⟩
theorem Off.of_below {w w1 : World} (h : Below w.heap.size w w1) : Off [] w w1 := ⟨h.os, h.tape, h.output, h.size, fun i hi _ => h.block i hi⟩
theorem Off.of_only {b : Nat} {w w1 : World} (h : Only b w w1) : Off [b] w w1 := ⟨h.os, h.tape, h.output, h.size, fun i hi hb => h.block i hi (fun e => hb (by simp [e]))⟩
theorem Off.below {F : List Nat} {w w1 w2 : World} (h : Off F w w1) (k : Below w1.heap.size w1 w2) : Off F w w2 := by simpa using h.trans (Off.of_below k)
theorem Off.toBelow {F : List Nat} {B : Nat} {w w1 : World} (h : Off F w w1) (hF : ∀ x ∈ F, B ≤ x) (hw : B ≤ w.heap.size) : Below B w w1 :=
  ⟨h.os, h.tape, h.output, h.size, fun i hi => h.block i (by omega) (fun e => by have := hF i e; omega)⟩
theorem Off.cell {F : List Nat} {w w1 : World} (h : Off F w w1) {p : Addr} (hp : p.block < w.heap.size) (hb : p.block ∉ F) : w1.cell? p = w.cell? p := World.cell?_of_block (h.block p.block hp hb)
theorem Off.frozen {F : List Nat} {w w1 : World} (h : Off F w w1) {p : Addr} (hp : p.block < w.heap.size) (hb : p.block ∉ F) : w1.frozen? p = w.frozen? p := by
  unfold World.frozen?; rw [h.block p.block hp hb]
theorem Blk.off {F : List Nat} {W W' : World} {B : Nat} {t : TypeId} {vs : Array Value} (h : Blk W B t vs) (k : Off F W W') (hne : B ∉ F) : Blk W' B t vs := (k.block B h.lt hne).trans h

section
variable {α : Type} [Cel α]
theorem In.off {F : List Nat} {c o : Nat} {w w1 : World} {l : List α} (h : In w c o l) (k : Off F w w1) (hc : c < w.heap.size) (hb : c ∉ F) : In w1 c o l :=
  fun j v hv => (k.cell (p := ⟨c, o + j, none⟩) hc hb).trans (h j v hv)
theorem there_off {F : List Nat} {c o n : Nat} {w w1 : World} (h : w.there c o n) (k : Off F w w1) (hc : c < w.heap.size) (hb : c ∉ F) : w1.there c o n := fun j hj => by
  rw [k.cell (p := ⟨c, o + j, none⟩) hc hb, k.frozen (p := ⟨c, o + j, none⟩) hc hb]; exact h j hj

/-- The list l in a block of its own, which is all of F; none where it is empty. -/
def Sl (w : World) (a : Option Addr) (l : List α) (F : List Nat) : Prop :=
  (l = [] ∧ F = []) ∨ ∃ b o, a = some ⟨b, o, none⟩ ∧ F = [b] ∧ b < w.heap.size ∧ In w b o l ∧ w.there b o (l.length * Cel.k α)
theorem Sl.off {F G : List Nat} {w w1 : World} {a : Option Addr} {l : List α} (h : Sl w a l F) (k : Off G w w1) (hd : ∀ x ∈ F, x ∉ G) : Sl w1 a l F := by
  rcases h with h | ⟨b, o, rfl, rfl, hb, hi, ht⟩
  · exact .inl h
  · have := hd b (by simp)
    exact .inr ⟨b, o, rfl, rfl, Nat.lt_of_lt_of_le hb k.size, hi.off k hb this, there_off ht k hb this⟩
theorem Sl.below {F : List Nat} {w w1 : World} {a : Option Addr} {l : List α} (h : Sl w a l F) (k : Below w.heap.size w w1) : Sl w1 a l F := h.off (Off.of_below k) (by simp)
theorem Sl.at {F : List Nat} {w : World} {a : Option Addr} {l : List α} (h : Sl w a l F) : At w a l :=
  h.imp (fun e => e.1) fun ⟨b, o, e, _, hb, hi, _⟩ => ⟨b, o, e, hb, hi⟩
theorem Sl.lt {F : List Nat} {w : World} {a : Option Addr} {l : List α} (h : Sl w a l F) : ∀ x ∈ F, x < w.heap.size := by
  rcases h with ⟨_, rfl⟩ | ⟨b, o, _, rfl, hb, _⟩
  · simp
  · simpa using hb
theorem Sl.nil (w : World) (a : Option Addr) : Sl w a ([] : List α) [] := .inl ⟨rfl, rfl⟩
theorem Sl.nodup {F : List Nat} {w : World} {a : Option Addr} {l : List α} (h : Sl w a l F) : F.Nodup := by
  rcases h with ⟨_, rfl⟩ | ⟨b, o, _, rfl, _⟩ <;> simp
theorem Sl.of_fresh {B : Nat} {w : World} {a : Option Addr} {n c : Nat} {l : List α} (h : Fresh B w (.slice a n c) l) : n = l.length ∧ ∃ F, Sl w a l F ∧ ∀ x ∈ F, B ≤ x := by
  obtain ⟨A, c', e, _, h⟩ := h
  cases e
  refine ⟨rfl, ?_⟩
  rcases h with h | ⟨b, o, e, hB, hb, hi, ht⟩
  · exact ⟨[], .inl ⟨h, rfl⟩, by simp⟩
  · exact ⟨[b], .inr ⟨b, o, e, rfl, hb, hi, ht⟩, by simpa using hB⟩
end
end Go.Proofs.Yteccgpakhbogpaa.Gen
