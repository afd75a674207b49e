/-
  Answers at this seat: which are right by the specification and by the program, what the laws' toAnswer, szAnswer do; an answer opened. No condition but the length that every text has.
-/
import Derived.Test.YtmdaammalacifaaGreatGen
set_option linter.unusedVariables false
set_option linter.unusedSimpArgs false
set_option maxRecDepth 100000
set_option maxHeartbeats 8000000
namespace Go.Proofs.YtmdaammalacifaaGreat.Gen
open ChangeShapes WideShapes ChangeAt RowKit Joins Deep Base
theorem Qfb (code n : Int) (k t : ByteArray) (w : World) :
 Calls Tryz.prog 113 #[.agg #[.int .i64 code, .int .i64 n, .string k, .string t]] w fun e w' => e = .returned (.agg #[.int .i64 code, .int .i64 n, .string k, .string t]) /\ Below w.heap.size w w' := by
 go_enter Tryz.func113, Tryz.ntmps113
 go_wp2
 exact bodyPost_ret (v := .agg #[.int .i64 code, .int .i64 n, .string k, .string t]) (by simp [results, Tryz.results113, go_sem]) rfl
  ⟨rfl, by repeat (first | exact Below.refl _ _ | refine Below.drew ?_ | refine Below.alloc ?_ (by simp<;>omega) _)⟩
theorem Qfi (code n : Int) (k t : ByteArray) (hk : k.size <= 9223372036854775807) (ht : t.size <= 9223372036854775807) (left : Int) (h0 : 0 <= left) (h1 : left <= 1048576) (w : World) :
 Calls Tryz.prog 104 #[.agg #[.int .i64 code, .int .i64 n, .string k, .string t], .int .i64 left] w fun e w' => (∃ r : Int, e = .returned (.int .i64 r) /\ (r = -1 ∨ (0 <= r /\ r = left - (k.size : Int) - (t.size : Int)))) /\ Below w.heap.size w w' := by
 by_cases g1 : left - (k.size : Int) < 0
 . go_enter Tryz.func104, Tryz.ntmps104
   go_wp2
   go_ret
   exact ⟨⟨-1, rfl, .inl rfl⟩, by repeat (first | exact Below.refl _ _ | assumption | refine via0 (by assumption) ?_ | refine Below.drew ?_ | refine Qab ?_ _)⟩
 . by_cases g2 : left - (k.size : Int) - (t.size : Int) < 0
   . go_enter Tryz.func104, Tryz.ntmps104
     go_wp2
     go_ret
     exact ⟨⟨-1, rfl, .inl rfl⟩, by repeat (first | exact Below.refl _ _ | assumption | refine via0 (by assumption) ?_ | refine Below.drew ?_ | refine Qab ?_ _)⟩
   . go_enter Tryz.func104, Tryz.ntmps104
     go_wp2
     go_ret
     exact ⟨⟨_, rfl, .inr ⟨by omega, rfl⟩⟩, by repeat (first | exact Below.refl _ _ | assumption | refine via0 (by assumption) ?_ | refine Below.drew ?_ | refine Qab ?_ _)⟩
theorem cellsAns : Tryz.prog.cellsOf 162 = 4 := by kernel_rfl
end Go.Proofs.YtmdaammalacifaaGreat.Gen
namespace Go.Proofs.YtmdaammalacifaaGreat.Gen
open ChangeShapes WideShapes ChangeAt RowKit Base
structure Off (F : List Nat) (w w' : World) : Prop where
  os : w'.os = w.os
  tape : w'.tape = w.tape
  output : w'.output = w.output
  size : w.heap.size <= w'.heap.size
  block : ∀ k, k < w.heap.size -> k ∉ F -> w'.heap[k]? = w.heap[k]?
theorem Off.refl (F : List Nat) (w : World) : Off F w w := ⟨rfl, rfl, rfl, Nat.le_refl _, fun _ _ _ => rfl⟩
theorem Off.trans {F G : List Nat} {w w1 w2 : World} (h : Off F w w1) (k : Off G w1 w2) : Off (F ++ G) w w2 :=
 ⟨k.os.trans h.os, k.tape.trans h.tape, k.output.trans h.output, Nat.le_trans h.size k.size, fun i hi hb => (k.block i (Nat.lt_of_lt_of_le hi h.size) (fun e => hb (List.mem_append_right _ e))).trans (h.block i hi (fun e => hb (List.mem_append_left _ e)))⟩
theorem Off.of_below {w w1 : World} (h : Below w.heap.size w w1) : Off [] w w1 := ⟨h.os, h.tape, h.output, h.size, fun i hi _ => h.block i hi⟩
theorem Off.of_only {b : Nat} {w w1 : World} (h : Only b w w1) : Off [b] w w1 := ⟨h.os, h.tape, h.output, h.size, fun i hi hb => h.block i hi (fun e => hb (by simp [e]))⟩
theorem Off.toBelow {F : List Nat} {B : Nat} {w w1 : World} (h : Off F w w1) (hF : ∀ x ∈ F, B <= x) (hw : B <= w.heap.size) : Below B w w1 :=
 ⟨h.os, h.tape, h.output, h.size, fun i hi => h.block i (by omega) (fun e => by have := hF i e; omega)⟩
theorem Off.cell {F : List Nat} {w w1 : World} (h : Off F w w1) {p : Addr} (hp : p.block < w.heap.size) (hb : p.block ∉ F) : w1.cell? p = w.cell? p := World.cell?_of_block (h.block p.block hp hb)
theorem Off.frozen {F : List Nat} {w w1 : World} (h : Off F w w1) {p : Addr} (hp : p.block < w.heap.size) (hb : p.block ∉ F) : w1.frozen? p = w.frozen? p := by
 unfold World.frozen?; rw [h.block p.block hp hb]
theorem Blk.off {F : List Nat} {W W' : World} {B : Nat} {t : TypeId} {vs : Array Value} (h : Blk W B t vs) (k : Off F W W') (hne : B ∉ F) : Blk W' B t vs := (k.block B h.lt hne).trans h
section
variable {α : Type} [Cel α]
theorem In.off {F : List Nat} {c o : Nat} {w w1 : World} {l : List α} (h : In w c o l) (k : Off F w w1) (hc : c < w.heap.size) (hb : c ∉ F) : In w1 c o l :=
 fun j v hv => (k.cell (p := ⟨c, o + j, none⟩) hc hb).trans (h j v hv)
theorem there_off {F : List Nat} {c o n : Nat} {w w1 : World} (h : w.there c o n) (k : Off F w w1) (hc : c < w.heap.size) (hb : c ∉ F) : w1.there c o n := fun j hj => by
 rw [k.cell (p := ⟨c, o + j, none⟩) hc hb, k.frozen (p := ⟨c, o + j, none⟩) hc hb]; exact h j hj
def Sl (w : World) (a : Option Addr) (l : List α) (F : List Nat) : Prop :=
  (l = [] /\ F = []) ∨ ∃ b o, a = some ⟨b, o, none⟩ /\ F = [b] /\ b < w.heap.size /\ In w b o l /\ w.there b o (l.length * Cel.k α)
theorem Sl.off {F G : List Nat} {w w1 : World} {a : Option Addr} {l : List α} (h : Sl w a l F) (k : Off G w w1) (hd : ∀ x ∈ F, x ∉ G) : Sl w1 a l F := by
 rcases h with h | ⟨b, o, rfl, rfl, hb, hi, ht⟩
 . exact .inl h
 . have := hd b (by simp)
   exact .inr ⟨b, o, rfl, rfl, Nat.lt_of_lt_of_le hb k.size, hi.off k hb this, there_off ht k hb this⟩
theorem Sl.below {F : List Nat} {w w1 : World} {a : Option Addr} {l : List α} (h : Sl w a l F) (k : Below w.heap.size w w1) : Sl w1 a l F := h.off (Off.of_below k) (by simp)
theorem Sl.lt {F : List Nat} {w : World} {a : Option Addr} {l : List α} (h : Sl w a l F) : ∀ x ∈ F, x < w.heap.size := by
 rcases h with ⟨_, rfl⟩ | ⟨b, o, _, rfl, hb, _⟩
 . simp
 . simpa using hb
theorem Sl.nodup {F : List Nat} {w : World} {a : Option Addr} {l : List α} (h : Sl w a l F) : F.Nodup := by
 rcases h with ⟨_, rfl⟩ | ⟨b, o, _, rfl, _⟩<;>simp
theorem Sl.of_fresh {B : Nat} {w : World} {a : Option Addr} {n c : Nat} {l : List α} (h : Qhk B w (.slice a n c) l) : n = l.length /\ ∃ F, Sl w a l F /\ ∀ x ∈ F, B <= x := by
 obtain ⟨A, c', e, _, h⟩ := h
 cases e
 refine ⟨rfl, ?_⟩
 rcases h with h | ⟨b, o, e, hB, hb, hi, ht⟩
 . exact ⟨[], .inl ⟨h, rfl⟩, by simp⟩
 . exact ⟨[b], .inr ⟨b, o, e, rfl, hb, hi, ht⟩, by simpa using hB⟩
end
end Go.Proofs.YtmdaammalacifaaGreat.Gen
