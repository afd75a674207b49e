/-
  Answers at this seat: which are right by the specification and by the program, what the laws' toAnswer, szAnswer do; an answer opened. No condition but the length that every text has.
-/
import Derived.Test.YtglegpkcikacoaaGreatDoorGen
set_option linter.unusedVariables false
set_option linter.unusedSimpArgs false
set_option maxRecDepth 100000
set_option maxHeartbeats 8000000
namespace Go.Proofs.YtglegpkcikacoaaGreatDoor.Gen
open ChangeShapes WideShapes ChangeAt RowKit Joins Deep Base
def ansB (code n : Int) (k t : ByteArray) : Bool := Items.inB code 0 9 && Items.inB n (-1) 100000 && Items.textB k && Items.textB t
theorem four (p q r s : Bool) : p = false ∨ (p = true /\ q = false) ∨ (p = true /\ q = true /\ r = false) ∨ (p = true /\ q = true /\ r = true /\ s = false) ∨ (p = true /\ q = true /\ r = true /\ s = true) := by
 cases p<;>cases q<;>cases r<;>cases s<;>simp
theorem Qfs (code n : Int) (k t : ByteArray) (hk : k.size <= 9223372036854775807) (ht : t.size <= 9223372036854775807) (w : World) :
 Calls Tryz.prog 83 #[.agg #[.int .i64 code, .int .i64 n, .string k, .string t]] w fun e w' => e = .returned (.bool (ansB code n k t)) /\ Below w.heap.size w w' := by
 rcases four (Items.inB code 0 9) (Items.inB n (-1) 100000) (Items.textB k) (Items.textB t) with h1 | ⟨h1, h2⟩ | ⟨h1, h2, h3⟩ | ⟨h1, h2, h3, h4⟩ | ⟨h1, h2, h3, h4⟩
 all_goals
  go_enter Tryz.func83, Tryz.ntmps83
  have q1 : w.heap.size < w.heap.size + 1 := Nat.lt_succ_self _
  go_wp2_with (first
   | (go_at_call 11; refine (Items.in_any _ _ _ _).mono ?_; rintro e w' ⟨rfl, rfl⟩)
   | (go_at_call_of 127 (Value.string k); refine (Items.specText_any k hk _).mono ?_; rintro e w1 ⟨rfl, g1⟩; obtain ⟨c1, f1⟩ := Qaj g1; have s1 := g1.size; try simp at s1; have q1 : w.heap.size < w1.heap.size := by omega)
   | (go_at_call_of 127 (Value.string t); refine (Items.specText_any t ht _).mono ?_; rintro e w1 ⟨rfl, g1⟩; obtain ⟨c1, f1⟩ := Qaj g1; have s1 := g1.size; try simp at s1; have q1 : w.heap.size < w1.heap.size := by omega))
  go_ret
  refine ⟨by simp [ansB, *], ?_⟩
  repeat (first | exact Below.refl _ _ | assumption | refine via0 (by assumption) ?_ | refine Below.drew ?_ | refine Qaa ?_ _)
theorem Qf8 (code n : Int) (k t : ByteArray) (hk : k.size <= 9223372036854775807) (ht : t.size <= 9223372036854775807) (w : World) :
 Calls Tryz.prog 111 #[.agg #[.int .i64 code, .int .i64 n, .string k, .string t]] w fun e w' => e = .returned (.bool (ansB code n k t)) /\ Below w.heap.size w w' := by
 rcases four (Items.inB code 0 9) (Items.inB n (-1) 100000) (Items.textB k) (Items.textB t) with h1 | ⟨h1, h2⟩ | ⟨h1, h2, h3⟩ | ⟨h1, h2, h3, h4⟩ | ⟨h1, h2, h3, h4⟩
 all_goals
  go_enter Tryz.func111, Tryz.ntmps111
  have q1 : w.heap.size < w.heap.size + 1 := Nat.lt_succ_self _
  go_wp2_with (first
   | (go_at_call 44; refine (Items.within_any _ _ _ _).mono ?_; rintro e w' ⟨rfl, rfl⟩)
   | (go_at_call_of 150 (Value.string k); refine (Items.implText_any k hk _).mono ?_; rintro e w1 ⟨rfl, g1⟩; obtain ⟨c1, f1⟩ := Qaj g1; have s1 := g1.size; try simp at s1; have q1 : w.heap.size < w1.heap.size := by omega)
   | (go_at_call_of 150 (Value.string t); refine (Items.implText_any t ht _).mono ?_; rintro e w1 ⟨rfl, g1⟩; obtain ⟨c1, f1⟩ := Qaj g1; have s1 := g1.size; try simp at s1; have q1 : w.heap.size < w1.heap.size := by omega))
  go_ret
  refine ⟨by simp [ansB, *], ?_⟩
  repeat (first | exact Below.refl _ _ | assumption | refine via0 (by assumption) ?_ | refine Below.drew ?_ | refine Qaa ?_ _)
structure Off (F : List Nat) (w w' : World) : Prop where
  os : w'.os = w.os
  tape : w'.tape = w.tape
  output : w'.output = w.output
  size : w.heap.size <= w'.heap.size
  block : ∀ k, k < w.heap.size -> k ∉ F -> w'.heap[k]? = w.heap[k]?
theorem Off.refl (F : List Nat) (w : World) : Off F w w := ⟨rfl, rfl, rfl, Nat.le_refl _, fun _ _ _ => rfl⟩
theorem Off.trans {F G : List Nat} {w w1 w2 : World} (h : Off F w w1) (k : Off G w1 w2) : Off (F ++ G) w w2 :=
 ⟨k.os.trans h.os, k.tape.trans h.tape, k.output.trans h.output, Nat.le_trans h.size k.size, fun i hi hb => (k.block i (Nat.lt_of_lt_of_le hi h.size) (fun e => hb (List.mem_append_right _ e))).trans (h.block i hi (fun e => hb (List.mem_append_left _ e)))⟩
theorem Off.of_below {w w1 : World} (h : Below w.heap.size w w1) : Off [] w w1 := ⟨h.os, h.tape, h.output, h.size, fun i hi _ => h.block i hi⟩
theorem Off.of_only {b : Nat} {w w1 : World} (h : Only b w w1) : Off [b] w w1 := ⟨h.os, h.tape, h.output, h.size, fun i hi hb => h.block i hi (fun e => hb (by simp [e]))⟩
theorem Off.cell {F : List Nat} {w w1 : World} (h : Off F w w1) {p : Addr} (hp : p.block < w.heap.size) (hb : p.block ∉ F) : w1.cell? p = w.cell? p := World.cell?_of_block (h.block p.block hp hb)
theorem Off.frozen {F : List Nat} {w w1 : World} (h : Off F w w1) {p : Addr} (hp : p.block < w.heap.size) (hb : p.block ∉ F) : w1.frozen? p = w.frozen? p := by
 unfold World.frozen?; rw [h.block p.block hp hb]
section
variable {α : Type} [Cel α]
theorem In.off {F : List Nat} {c o : Nat} {w w1 : World} {l : List α} (h : In w c o l) (k : Off F w w1) (hc : c < w.heap.size) (hb : c ∉ F) : In w1 c o l :=
 fun j v hv => (k.cell (p := ⟨c, o + j, none⟩) hc hb).trans (h j v hv)
theorem there_off {F : List Nat} {c o n : Nat} {w w1 : World} (h : w.there c o n) (k : Off F w w1) (hc : c < w.heap.size) (hb : c ∉ F) : w1.there c o n := fun j hj => by
 rw [k.cell (p := ⟨c, o + j, none⟩) hc hb, k.frozen (p := ⟨c, o + j, none⟩) hc hb]; exact h j hj
def Sl (w : World) (a : Option Addr) (l : List α) (F : List Nat) : Prop :=
  (l = [] /\ F = []) ∨ ∃ b o, a = some ⟨b, o, none⟩ /\ F = [b] /\ b < w.heap.size /\ In w b o l /\ w.there b o (l.length * Cel.k α)
theorem Sl.off {F G : List Nat} {w w1 : World} {a : Option Addr} {l : List α} (h : Sl w a l F) (k : Off G w w1) (hd : ∀ x ∈ F, x ∉ G) : Sl w1 a l F := by
 rcases h with h | ⟨b, o, rfl, rfl, hb, hi, ht⟩
 . exact .inl h
 . have := hd b (by simp)
   exact .inr ⟨b, o, rfl, rfl, Nat.lt_of_lt_of_le hb k.size, hi.off k hb this, there_off ht k hb this⟩
theorem Sl.below {F : List Nat} {w w1 : World} {a : Option Addr} {l : List α} (h : Sl w a l F) (k : Below w.heap.size w w1) : Sl w1 a l F := h.off (Off.of_below k) (by simp)
theorem Sl.lt {F : List Nat} {w : World} {a : Option Addr} {l : List α} (h : Sl w a l F) : ∀ x ∈ F, x < w.heap.size := by
 rcases h with ⟨_, rfl⟩ | ⟨b, o, _, rfl, hb, _⟩
 . simp
 . simpa using hb
theorem Sl.nil (w : World) (a : Option Addr) : Sl w a ([] : List α) [] := .inl ⟨rfl, rfl⟩
end
structure Offp (S : Nat -> Prop) (w w' : World) : Prop where
  os : w'.os = w.os
  tape : w'.tape = w.tape
  output : w'.output = w.output
  size : w.heap.size <= w'.heap.size
  block : ∀ k, k < w.heap.size -> ¬ S k -> w'.heap[k]? = w.heap[k]?
theorem Offp.refl (S : Nat -> Prop) (w : World) : Offp S w w := ⟨rfl, rfl, rfl, Nat.le_refl _, fun _ _ _ => rfl⟩
theorem Offp.trans {S : Nat -> Prop} {w w1 w2 : World} (h : Offp S w w1) (k : Offp S w1 w2) : Offp S w w2 :=
 ⟨k.os.trans h.os, k.tape.trans h.tape, k.output.trans h.output, Nat.le_trans h.size k.size, fun i hi hb => (k.block i (Nat.lt_of_lt_of_le hi h.size) hb).trans (h.block i hi hb)⟩
theorem Offp.mono {S T : Nat -> Prop} {w w1 : World} (h : Offp S w w1) (s : ∀ x, S x -> T x) : Offp T w w1 := ⟨h.os, h.tape, h.output, h.size, fun i hi hb => h.block i hi (fun e => hb (s i e))⟩
theorem Offp.of_below {S : Nat -> Prop} {w w1 : World} (h : Below w.heap.size w w1) : Offp S w w1 := ⟨h.os, h.tape, h.output, h.size, fun i hi _ => h.block i hi⟩
theorem Offp.of_only {b : Nat} {w w1 : World} (h : Only b w w1) : Offp (fun x => x = b) w w1 := ⟨h.os, h.tape, h.output, h.size, fun i hi hb => h.block i hi hb⟩
theorem Offp.of_off {F : List Nat} {w w1 : World} (h : Off F w w1) : Offp (fun x => x ∈ F) w w1 := ⟨h.os, h.tape, h.output, h.size, fun i hi hb => h.block i hi hb⟩
theorem Offp.below {S : Nat -> Prop} {w w1 w2 : World} (h : Offp S w w1) (k : Below w1.heap.size w1 w2) : Offp S w w2 := h.trans (Offp.of_below k)
theorem Offp.set {S : Nat -> Prop} {w w1 : World} (h : Offp S w w1) {b : Nat} (hb : S b) (o : Nat) (v : Value) : Offp S w (w1.setCell ⟨b, o, none⟩ v) :=
 h.trans ((Offp.of_only ((Only.refl b w1).set o v)).mono (fun x e => e ▸ hb))
theorem Offp.toBelow {S : Nat -> Prop} {B : Nat} {w w1 : World} (h : Offp S w w1) (hF : ∀ x, S x -> B <= x) (hw : B <= w.heap.size) : Below B w w1 :=
 ⟨h.os, h.tape, h.output, h.size, fun i hi => h.block i (by omega) (fun e => by have := hF i e; omega)⟩
theorem Offp.cell {S : Nat -> Prop} {w w1 : World} (h : Offp S w w1) {p : Addr} (hp : p.block < w.heap.size) (hb : ¬ S p.block) : w1.cell? p = w.cell? p := World.cell?_of_block (h.block p.block hp hb)
theorem Offp.frozen {S : Nat -> Prop} {w w1 : World} (h : Offp S w w1) {p : Addr} (hp : p.block < w.heap.size) (hb : ¬ S p.block) : w1.frozen? p = w.frozen? p := by
 unfold World.frozen?; rw [h.block p.block hp hb]
theorem Blk.offp {S : Nat -> Prop} {W W' : World} {B : Nat} {t : TypeId} {vs : Array Value} (h : Blk W B t vs) (k : Offp S W W') (hne : ¬ S B) : Blk W' B t vs := (k.block B h.lt hne).trans h
theorem Qcq {S : Nat -> Prop} {c o n : Nat} {w w1 : World} (h : w.there c o n) (k : Offp S w w1) (hc : c < w.heap.size) (hb : ¬ S c) : w1.there c o n := fun j hj => by
 rw [k.cell (p := ⟨c, o + j, none⟩) hc hb, k.frozen (p := ⟨c, o + j, none⟩) hc hb]; exact h j hj
section
variable {α : Type} [Cel α]
theorem In.offp {S : Nat -> Prop} {c o : Nat} {w w1 : World} {l : List α} (h : In w c o l) (k : Offp S w w1) (hc : c < w.heap.size) (hb : ¬ S c) : In w1 c o l :=
 fun j v hv => (k.cell (p := ⟨c, o + j, none⟩) hc hb).trans (h j v hv)
def Sub (w : World) (a : Option Addr) (l : List α) (S : Nat -> Prop) : Prop :=
  l = [] ∨ ∃ b o, a = some ⟨b, o, none⟩ /\ S b /\ b < w.heap.size /\ In w b o l /\ w.there b o (l.length * Cel.k α)
theorem Sub.offp {S T : Nat -> Prop} {w w1 : World} {a : Option Addr} {l : List α} (h : Sub w a l S) (k : Offp T w w1) (hd : ∀ x, S x -> ¬ T x) : Sub w1 a l S :=
 h.imp id fun ⟨b, o, e, hs, hb, hi, ht⟩ => ⟨b, o, e, hs, Nat.lt_of_lt_of_le hb k.size, hi.offp k hb (hd b hs), Qcq ht k hb (hd b hs)⟩
theorem Sub.mono {S T : Nat -> Prop} {w : World} {a : Option Addr} {l : List α} (h : Sub w a l S) (s : ∀ x, S x -> T x) : Sub w a l T :=
 h.imp id fun ⟨b, o, e, hs, r⟩ => ⟨b, o, e, s b hs, r⟩
theorem Sub.at {S : Nat -> Prop} {w : World} {a : Option Addr} {l : List α} (h : Sub w a l S) : At w a l :=
 h.imp id fun ⟨b, o, e, _, hb, hi, _⟩ => ⟨b, o, e, hb, hi⟩
theorem Sub.below {S : Nat -> Prop} {w w1 : World} {a : Option Addr} {l : List α} (h : Sub w a l S) (k : Below w.heap.size w w1) : Sub w1 a l S :=
 h.offp (Offp.of_below (S := fun _ => False) k) (fun _ _ e => e)
theorem Qh3 (l : List α) (n : Nat) (hn : n < l.length) (y : α) (f : Nat) (hf : f < Cel.k α) (v : Value) (hy : Cel.cs y = (Cel.cs l[n]).set f v) : flat (l.set n y) = (flat l).set (n * Cel.k α + f) v := by
 induction l generalizing n with
 | nil => simp at hn
 | cons x l ih =>
  cases n with
  | zero =>
   simp only [List.set_cons_zero, Qcx, Nat.zero_mul, Nat.zero_add]
   rw [List.set_append_left _ _ (by rw [Cel.len]; exact hf), hy]; rfl
  | succ n =>
   simp only [List.set_cons_succ, Qcx]
   rw [ih n (by simpa using hn) (by simpa using hy), List.set_append_right _ _ (by rw [Cel.len, Nat.add_mul]; omega), Cel.len]
   congr 2
   rw [Nat.add_mul]; omega
theorem In.set1 {w : World} {b o : Nat} {l : List α} (h : In w b o l) (n : Nat) (hn : n < l.length) (y : α) (f : Nat) (hf : f < Cel.k α) (v : Value) (hy : Cel.cs y = (Cel.cs l[n]).set f v) : In (w.setCell ⟨b, o + n * Cel.k α + f, none⟩ v) b o (l.set n y) := by
 intro j u hu
 rw [Qh3 l n hn y f hf v hy] at hu
 by_cases e : n * Cel.k α + f = j
 . subst e
   rw [List.getElem?_set_self (by rw [Qap]; have : (n + 1) * Cel.k α <= l.length * Cel.k α := Nat.mul_le_mul_right _ hn; rw [Nat.add_mul] at this; omega)] at hu
   cases hu
   have hc := h.cell n hn (f := f) (v := (Cel.cs l[n])[f]'(by rw [Cel.len]; exact hf)) (List.getElem?_eq_getElem _)
   rw [← Nat.add_assoc]
   exact World.cell?_setCell_same' _ _ _ (by rw [hc]; rfl)
 . rw [List.getElem?_set_ne e] at hu
   rw [World.cell?_setCell_other (h := fun ee => by have := congrArg Addr.off ee; simp only at this; omega)]
   exact h j u hu
variable {P : World -> α -> (Nat -> Prop) -> Prop}
def Firm (P : World -> α -> (Nat -> Prop) -> Prop) : Prop := ∀ (w w' : World) (x : α) (S T : Nat -> Prop), P w x S -> Offp T w w' -> (∀ y, S y -> ¬ T y) -> P w' x S
structure OwnF (P : World -> α -> (Nat -> Prop) -> Prop) (w : World) (b o : Nat) (l : List α) (fp : Nat -> Nat -> Prop) : Prop where
  lt : b < w.heap.size
  lst : In w b o l
  th : w.there b o (l.length * Cel.k α)
  sub : ∀ (i : Nat) (h : i < l.length), P w l[i] (fp i)
  dis : ∀ i j, i ≠ j -> ∀ x, fp i x -> ¬ fp j x
  nb : ∀ i, ¬ fp i b
theorem OwnF.offp (hP : Firm P) {w w' : World} {b o : Nat} {l : List α} {fp : Nat -> Nat -> Prop} {T : Nat -> Prop} (h : OwnF P w b o l fp) (k : Offp T w w') (hb : ¬ T b) (hd : ∀ i x, fp i x -> ¬ T x) : OwnF P w' b o l fp :=
 ⟨Nat.lt_of_lt_of_le h.lt k.size, h.lst.offp k h.lt hb, Qcq h.th k h.lt hb, fun i hi => hP _ _ _ _ _ (h.sub i hi) k (hd i), h.dis, h.nb⟩
theorem OwnF.below (hP : Firm P) {w w' : World} {b o : Nat} {l : List α} {fp : Nat -> Nat -> Prop} (h : OwnF P w b o l fp) (k : Below w.heap.size w w') : OwnF P w' b o l fp :=
 h.offp hP (Offp.of_below (S := fun _ => False) k) (fun e => e) (fun _ _ _ e => e)
theorem OwnF.set1 (hP : Firm P) {w : World} {b o : Nat} {l : List α} {fp : Nat -> Nat -> Prop} (h : OwnF P w b o l fp) (n : Nat) (hn : n < l.length) (y : α) (f : Nat) (hf : f < Cel.k α) (v : Value) (hy : Cel.cs y = (Cel.cs l[n]).set f v)
 (hs : ∀ W S, P W l[n] S -> P W y S) : OwnF P (w.setCell ⟨b, o + n * Cel.k α + f, none⟩ v) b o (l.set n y) fp := by
 have k : Offp (fun x => x = b) w (w.setCell ⟨b, o + n * Cel.k α + f, none⟩ v) := Offp.of_only ((Only.refl b w).set _ v)
 refine ⟨by simpa using h.lt, h.lst.set1 n hn y f hf v hy, by rw [List.length_set]; exact Qhy h.th _ _ _, fun i hi => ?_, h.dis, h.nb⟩
 have hi' : i < l.length := by simpa using hi
 have hk : P (w.setCell ⟨b, o + n * Cel.k α + f, none⟩ v) l[i] (fp i) := hP _ _ _ _ _ (h.sub i hi') k (fun y hy e => h.nb i (e ▸ hy))
 by_cases e : n = i
 . subst e
   rw [List.getElem_set_self]
   exact hs _ _ hk
 . rw [List.getElem_set_ne e]; exact hk
theorem OwnF.turn (hP : Firm P) {w w' : World} {b o : Nat} {l : List α} {fp : Nat -> Nat -> Prop} (h : OwnF P w b o l fp) (n : Nat) (hn : n < l.length) (y : α) (hc : Cel.cs y = Cel.cs l[n]) (k : Offp (fp n) w w') (hy : P w' y (fp n)) : OwnF P w' b o (l.set n y) fp := by
 refine ⟨Nat.lt_of_lt_of_le h.lt k.size, ?_, ?_, fun i hi => ?_, h.dis, h.nb⟩
 . have e : flat (l.set n y) = flat l := by
    unfold flat
    rw [List.flatMap_def, List.flatMap_def, List.map_set, hc, ← List.map_set, List.set_getElem_self]
   show w'.rangeAt b o _
   rw [e]
   exact h.lst.offp k h.lt (h.nb n)
 . rw [List.length_set]; exact Qcq h.th k h.lt (h.nb n)
 . have hi' : i < l.length := by simpa using hi
   by_cases e : n = i
   . subst e; rw [List.getElem_set_self]; exact hy
   . rw [List.getElem_set_ne e]; exact hP _ _ _ _ _ (h.sub i hi') k (fun x hx => h.dis i n (fun e' => e e'.symm) x hx)
def Own (P : World -> α -> (Nat -> Prop) -> Prop) (w : World) (a : Option Addr) (l : List α) (S : Nat -> Prop) : Prop :=
  l = [] ∨ ∃ b o fp, a = some ⟨b, o, none⟩ /\ S b /\ (∀ i x, fp i x -> S x) /\ OwnF P w b o l fp
theorem Own.offp (hP : Firm P) {S T : Nat -> Prop} {w w1 : World} {a : Option Addr} {l : List α} (h : Own P w a l S) (k : Offp T w w1) (hd : ∀ x, S x -> ¬ T x) : Own P w1 a l S :=
 h.imp id fun ⟨b, o, fp, e, hs, hf, hO⟩ => ⟨b, o, fp, e, hs, hf, hO.offp hP k (hd b hs) (fun i x hx => hd x (hf i x hx))⟩
theorem Own.below (hP : Firm P) {S : Nat -> Prop} {w w1 : World} {a : Option Addr} {l : List α} (h : Own P w a l S) (k : Below w.heap.size w w1) : Own P w1 a l S :=
 h.offp hP (Offp.of_below (S := fun _ => False) k) (fun _ _ e => e)
theorem Own.mono {S T : Nat -> Prop} {w : World} {a : Option Addr} {l : List α} (h : Own P w a l S) (s : ∀ x, S x -> T x) : Own P w a l T :=
 h.imp id fun ⟨b, o, fp, e, hs, hf, hO⟩ => ⟨b, o, fp, e, s b hs, fun i x hx => s x (hf i x hx), hO⟩
theorem Own.at {S : Nat -> Prop} {w : World} {a : Option Addr} {l : List α} (h : Own P w a l S) : At w a l :=
 h.imp id fun ⟨b, o, fp, e, _, _, hO⟩ => ⟨b, o, e, hO.lt, hO.lst⟩
theorem Own.each {S : Nat -> Prop} {w : World} {a : Option Addr} {l : List α} (h : Own P w a l S) {Q : α -> Prop} (hQ : ∀ x S, P w x S -> Q x) : ∀ x ∈ l, Q x := by
 rcases h with rfl | ⟨b, o, fp, e, _, _, hO⟩
 . simp
 . intro x hx
   obtain ⟨i, hi, rfl⟩ := List.getElem_of_mem hx
   exact hQ _ _ (hO.sub i hi)
end
theorem Qcc {W W' : World} {row : Option Nat} (h : W.grownBy W' row) : Offp (fun x => row = some x) W W' := ⟨h.os, h.tape, h.output, h.size, fun k hk hn => h.block k hk (fun e => hn e.symm)⟩
theorem Qct {B : Nat} {W W' : World} {v : Value} {t : TypeId} {k n : Nat} {xs : List Value} {S : Nat -> Prop} (h : W.ownsRow B t k v n xs) (hg : Offp S W W') (hne : ∀ x, v.ownBlock = some x -> ¬ S x) : W'.ownsRow B t k v n xs := by
 refine ⟨h.1, ?_⟩
 rcases h.2 with ⟨rfl, rfl⟩ | ⟨g, c, cur, rfl, hB, hb, hc, hm, hsz, ht⟩
 . exact .inl ⟨rfl, rfl⟩
 . exact .inr ⟨g, c, cur, rfl, hB, Blk.offp (show Blk W g t cur from hb) hg (hne g rfl), hc, hm, hsz, ht⟩
section
variable {α : Type}
def marked (m : α -> Int -> α) (c : α -> Nat) : List α -> Int -> List α
  | [], _ => []
  | x :: l, z => m x z :: marked m c l (z + c x)
def Qac (c : α -> Nat) (l : List α) : Nat := (l.map c).sum
theorem Qa8 (m : α -> Int -> α) (c : α -> Nat) (l : List α) : ∀ z, (marked m c l z).length = l.length := by
 induction l with
 | nil => intro z; rfl
 | cons x l ih => intro z; simp [marked, ih]
theorem Qas (c : α -> Nat) (l : List α) (n : Nat) (hn : n < l.length) : Qac c (l.take (n + 1)) = Qac c (l.take n) + c l[n] := by
 unfold Qac; rw [List.take_succ_eq_append_getElem hn, List.map_append, List.sum_append]; simp
theorem Qcl (c : α -> Nat) (l : List α) (n : Nat) : Qac c (l.take n) <= Qac c l := by
 have e : Qac c l = Qac c (l.take n) + Qac c (l.drop n) := by
  unfold Qac; rw [← List.sum_append, ← List.map_append, List.take_append_drop]
 omega
theorem Qb6 (c : α -> Nat) (l : List α) (n : Nat) (hn : l.length <= n) : Qac c (l.take n) = Qac c l := by rw [List.take_of_length_le hn]
def half (m : α -> Int -> α) (c : α -> Nat) (l : List α) (k : Int) (n : Nat) : List α := marked m c (l.take n) k ++ l.drop n
theorem Qdz (m : α -> Int -> α) (c : α -> Nat) (l : List α) (k : Int) : half m c l k 0 = l := by simp [half, marked]
theorem Qev (m : α -> Int -> α) (c : α -> Nat) (l : List α) (k : Int) (n : Nat) (hn : l.length <= n) : half m c l k n = marked m c l k := by simp [half, List.take_of_length_le hn, List.drop_eq_nil_of_le hn]
theorem Qc3 (m : α -> Int -> α) (c : α -> Nat) (l : List α) (k : Int) (n : Nat) : (half m c l k n).length = l.length := by
 simp only [half, List.length_append, Qa8, List.length_take, List.length_drop]; omega
theorem Qeu (m : α -> Int -> α) (c : α -> Nat) (l : List α) (k : Int) (n : Nat) (hn : n < l.length) (h : n < (half m c l k n).length) : (half m c l k n)[n] = l[n] := by
 have hl : (marked m c (l.take n) k).length = n := by rw [Qa8, List.length_take]; omega
 simp only [half]
 rw [List.getElem_append_right (by omega)]
 simp [hl]
theorem Qg4 (m : α -> Int -> α) (c : α -> Nat) (l r : List α) : ∀ k, marked m c (l ++ r) k = marked m c l k ++ marked m c r (k + Qac c l) := by
 induction l with
 | nil => intro k; simp [marked, Qac]
 | cons x l ih =>
  intro k
  have e : k + (c x : Int) + (Qac c l : Int) = k + (Qac c (x :: l) : Int) := by simp only [Qac, List.map_cons, List.sum_cons]; omega
  simp only [List.cons_append, marked, ih, e]
theorem Qd0 (m : α -> Int -> α) (c : α -> Nat) (l : List α) (k : Int) (n : Nat) (hn : n < l.length) : half m c l k (n + 1) = (half m c l k n).set n (m l[n] (k + Qac c (l.take n))) := by
 have hl : (marked m c (l.take n) k).length = n := by rw [Qa8, List.length_take]; omega
 unfold half
 rw [List.take_succ_eq_append_getElem hn, Qg4, List.set_append_right _ _ (by omega), hl, Nat.sub_self, List.drop_eq_getElem_cons hn, List.append_assoc]
 rfl
theorem Qdf (m : α -> Int -> α) (c : α -> Nat) (l : List α) (n : Nat) (hn : n < l.length) : ∀ (k : Int) (h : n < (marked m c l k).length), (marked m c l k)[n] = m l[n] (k + Qac c (l.take n)) := by
 induction l generalizing n with
 | nil => simp at hn
 | cons x l ih =>
  intro k h
  cases n with
  | zero => simp [marked, Qac]
  | succ n =>
   simp only [marked, List.getElem_cons_succ]
   have e : k + (c x : Int) + (Qac c (l.take n) : Int) = k + (Qac c ((x :: l).take (n + 1)) : Int) := by simp only [Qac, List.take_succ_cons, List.map_cons, List.sum_cons]; omega
   rw [ih n (by simpa using hn), e]
end
structure Mk where
  seq : Int
  off : Int
instance : Inhabited Mk := ⟨⟨0, 0⟩⟩
instance : Cel Mk where
  k := 2
  cs x := [.int .i64 x.seq, .int .i64 x.off]
  len _ := rfl
  one x u hu := by simp at hu; rcases hu with rfl | rfl<;>rfl
theorem In.getMk {w : World} {b o : Nat} {l : List Mk} (h : In w b o l) (i : Nat) (hi : i < l.length) :
 w.cell? ⟨b, o + i * 2, none⟩ = some (.int .i64 l[i].seq) /\ w.cell? ⟨b, o + i * 2 + 1, none⟩ = some (.int .i64 l[i].off) :=
 ⟨h.cell i hi (f := 0) rfl, h.cell i hi (f := 1) rfl⟩
theorem infoMk : (Tryz.prog.info? 199).map (fun i => (i.zero, i.size, i.bytes)) = some (some (.agg #[.int .i64 0, .int .i64 0]), 2, 16) := by kernel_rfl
theorem eqMk_same (seq off : Int) (w : World) :
 Calls Tryz.prog 181 #[.agg #[.int .i64 seq, .int .i64 off], .agg #[.int .i64 seq, .int .i64 off]] w fun e w' => e = .returned (.bool true) /\ Below w.heap.size w w' := by
 go_enter Tryz.func181, Tryz.ntmps181
 go_wp2
 go_ret
 exact ⟨rfl, by repeat (first | exact Below.refl _ _ | refine via0 (by assumption) ?_ | refine Below.drew ?_ | refine Qaa ?_ _)⟩
theorem eqMkS_same (A A' : Option Addr) (cap cap' : Nat) (l : List Mk) (hl : l.length <= 9223372036854775807) (w : World) (hA : At w A l) (hA' : At w A' l) :
 Calls Tryz.prog 155 #[.slice A l.length cap, .slice A' l.length cap'] w fun e w' => e = .returned (.bool true) /\ Below w.heap.size w w' := by
 have HA : Hid (At w A l) := hA
 have HA' : Hid (At w A' l) := hA'
 clear hA hA'
 go_enter Tryz.func155, Tryz.ntmps155
 go_wp2
 go_loopw [5] (fun i w' => ∃ (n : Nat), i = .int .i64 (n : Int) /\ n <= l.length /\ Below w.heap.size w w') (fun i _ => l.length - (intOf i).toNat)
 case atStart => exact ⟨0, rfl, by omega, Below.refl _ _⟩
 case round =>
  obtain ⟨n, rfl, hn, hbl⟩ := hrel
  by_cases hlt : n < l.length
  . obtain ⟨b, o, rfl, hbs, hin⟩ : ∃ b o, A = some ⟨b, o, none⟩ /\ b < w.heap.size /\ In w b o l := by
     rcases HA.out with h | h
     . subst h; simp at hlt
     . exact h
    obtain ⟨b', o', rfl, hbs', hin'⟩ : ∃ b o, A' = some ⟨b, o, none⟩ /\ b < w.heap.size /\ In w b o l := by
     rcases HA'.out with h | h
     . subst h; simp at hlt
     . exact h
    obtain ⟨c0, c1⟩ := (hin.below hbs hbl).getMk n hlt
    obtain ⟨d0, d1⟩ := (hin'.below hbs' hbl).getMk n hlt
    have hb1 : b < wr.heap.size := Nat.lt_of_lt_of_le hbs hbl.size
    have hb2 : b' < wr.heap.size := Nat.lt_of_lt_of_le hbs' hbl.size
    have hi0 : (0 : Int) <= (n : Int) := by omega
    have hi1 : (n : Int) < (l.length : Int) := by omega
    go_wp2
    go_region_held3 (fun w' => w'.cell? ⟨b, o + n * 2, none⟩ = some (.int .i64 l[n].seq) /\ w'.cell? ⟨b, o + n * 2 + 1, none⟩ = some (.int .i64 l[n].off) /\ w'.cell? ⟨b', o' + n * 2, none⟩ = some (.int .i64 l[n].seq) /\ w'.cell? ⟨b', o' + n * 2 + 1, none⟩ = some (.int .i64 l[n].off) /\ wr.heap.size <= w'.heap.size)
     (first | (go_split_ands; refine ⟨?_, ?_, ?_, ?_, ?_⟩<;>first | assumption | exact (k1 _ _ hb1).trans (by assumption) | exact (k1 _ _ hb2).trans (by assumption) | exact s1 | (simp; done)) | go_keep)
     (first
      | (go_at_call 181; refine (eqMk_same _ _ _).mono ?_; rintro e w1 ⟨rfl, g1⟩; obtain ⟨k1, m1⟩ := Qaj g1; have s1 := g1.size))
    all_goals
     go_wp2
     exact ⟨⟨n + 1, by go_num, by omega, via0 g1 hbl.drew⟩, by simp [intOf]; omega⟩
  . go_wp2
    go_ret
    exact ⟨rfl, hbl⟩
def markMk (z : Int) : Mk := ⟨z, z + 1⟩
def Qa6 (n : Nat) (z : Int) : List Mk := (List.range n).map fun (i : Nat) => markMk (z + (i : Int) * 2)
theorem Qbb (n : Nat) (z : Int) : (Qa6 n z).length = n := by simp [Qa6]
theorem Qii (n : Nat) (z : Int) : Qa6 (n + 1) z = Qa6 n z ++ [markMk (z + (n : Int) * 2)] := by simp [Qa6, List.range_succ]
theorem Qj3 (n : Nat) (z : Int) (i : Nat) (h : i < (Qa6 n z).length) : (Qa6 n z)[i] = markMk (z + (i : Int) * 2) := by simp [Qa6]
theorem Qij (n : Nat) (k z : Int) (hz : z = k + (n : Int) * 2) :
 flat (Qa6 n k) ++ [.int .i64 (z)] ++ [.int .i64 (z + 1)] = flat (Qa6 (n + 1) k) := by
 subst hz
 rw [Qii, Qa1, Qbp]
 simp [Cel.cs, markMk, Int.add_assoc]
theorem Qka (b o cap m : Nat) (k : Int) (hk : 1 <= k) (hk' : k <= 100000000) (hm : m <= 2000000) (w : World) (hb : b < w.heap.size) (hth : w.there b o (m * 2)) :
 Calls Tryz.prog 121 #[.slice (some ⟨b, o, none⟩) m cap, .int .i64 k] w fun e w' => e = .returned (.int .i64 (k + (m : Int) * 2)) /\ Only b w w' /\ In w' b o (Qa6 m k) /\ w'.there b o (m * 2) := by
 have HT : Hid (w.there b o (m * 2)) := hth
 clear hth
 go_enter Tryz.func121, Tryz.ntmps121
 go_wp2
 go_loopw [1, 5] (fun kk i w' => ∃ (n : Nat) (z : Int), i = .int .i64 (n : Int) /\ kk = .int .i64 z /\ n <= m /\ 1 <= z /\ z <= 900000000 /\ Only b w w' /\ Hid (z = k + (n : Int) * 2) /\ Hid (In w' b o (Qa6 n k)) /\ Hid (w'.there b o (m * 2))) (fun _ i _ => m - (intOf i).toNat)
 case atStart => exact ⟨0, k, rfl, rfl, by omega, hk, by omega, Only.refl _ _, by simp [Hid], fun j v hv => by simp [Qa6, flat] at hv, HT.out⟩
 case round =>
  obtain ⟨n, z, rfl, rfl, hn, hz1, hz2, ho, hz, hin, hth⟩ := hrel
  by_cases hlt : n < m
  . obtain ⟨⟨v0, d0⟩, f0⟩ := Qaf (f := 0) hth.out hlt (by omega)
    obtain ⟨⟨v1, d1⟩, f1⟩ := Qaf (f := 1) hth.out hlt (by omega)
    simp only [Nat.add_zero] at d0 f0
    have q1 : b < wr.heap.size := Nat.lt_of_lt_of_le hb ho.size
    go_wp2
    have hlen : (flat (Qa6 n k)).length = n * 2 := by rw [Qap, Qbb]; rfl
    have P0 := push (v := .int .i64 (z)) (q := o + n * 2) ⟨hin.out, hth.out, q1⟩ (by simp [hlen]; omega) (by simp [hlen])
    have P1 := push (v := .int .i64 (z + 1)) (q := o + n * 2 + 1) P0 (by simp [hlen]; omega) (by simp [hlen]; omega)
    rw [Qij n k z hz.out] at P1
    have hz' := hz.out
    refine ⟨⟨n + 1, z + 1 + 1, by go_num, rfl, by omega, by omega, by omega, ?_, by show z + 1 + 1 = _; omega, P1.1, P1.2.1⟩, by simp [intOf]; omega⟩
    exact (ho.set _ _).set _ _
  . obtain rfl : n = m := by omega
    go_wp2
    go_ret
    have e := hz.out
    subst e
    exact ⟨rfl, ho, hin.out, hth.out⟩
theorem Qiu (A : Option Addr) (cap : Nat) (k : Int) (w : World) :
 Calls Tryz.prog 121 #[.slice A 0 cap, .int .i64 k] w fun e w' => e = .returned (.int .i64 k) /\ w' = w := by
 go_enter Tryz.func121, Tryz.ntmps121
 go_wp2
 go_loopw [1, 5] (fun kk i w' => kk = .int .i64 k /\ i = .int .i64 0 /\ w' = w) (fun _ _ _ => 0)
 case atStart => exact ⟨rfl, rfl, rfl⟩
 case round =>
  obtain ⟨rfl, rfl, rfl⟩ := hrel
  go_wp2
  go_ret
  exact ⟨rfl, rfl⟩
theorem Qkj (A : Option Addr) (cap m : Nat) (k : Int) (hk : 1 <= k) (hk' : k <= 100000000) (hm : m <= 2000000) (w : World)
 (hA : m = 0 ∨ ∃ b o, A = some ⟨b, o, none⟩ /\ b < w.heap.size /\ In w b o (Qa6 m k)) :
 Calls Tryz.prog 123 #[.slice A m cap, .int .i64 k] w fun e w' => e = .returned (.int .i64 (k + (m : Int) * 2)) /\ w' = w := by
 have HA : Hid (m = 0 ∨ ∃ b o, A = some ⟨b, o, none⟩ /\ b < w.heap.size /\ In w b o (Qa6 m k)) := hA
 clear hA
 go_enter Tryz.func123, Tryz.ntmps123
 go_wp2
 go_loopw [1, 5] (fun kk i w' => ∃ (n : Nat) (z : Int), i = .int .i64 (n : Int) /\ kk = .int .i64 z /\ n <= m /\ 1 <= z /\ z <= 900000000 /\ Hid (z = k + (n : Int) * 2) /\ w' = w) (fun _ i _ => m - (intOf i).toNat)
 case atStart => exact ⟨0, k, rfl, rfl, by omega, hk, by omega, by simp [Hid], rfl⟩
 case round =>
  obtain ⟨n, z, rfl, rfl, hn, hz1, hz2, hz, rfl⟩ := hrel
  by_cases hlt : n < m
  . obtain ⟨b, o, rfl, hbs, hin⟩ : ∃ b o, A = some ⟨b, o, none⟩ /\ b < wr.heap.size /\ In wr b o (Qa6 m k) := by
     rcases HA.out with h | h
     . omega
     . exact h
    obtain ⟨c0, c1⟩ : wr.cell? ⟨b, o + n * 2, none⟩ = some (.int .i64 (z)) /\ wr.cell? ⟨b, o + n * 2 + 1, none⟩ = some (.int .i64 (z + 1)) := by
     have h := hin.getMk n (by rw [Qbb]; exact hlt)
     rw [Qj3] at h
     rw [hz.out]
     exact h
    have hi0 : (0 : Int) <= (n : Int) := by omega
    have hi1 : (n : Int) < (m : Int) := by omega
    go_wp2
    have hz' := hz.out
    exact ⟨⟨n + 1, z + 1 + 1, by go_num, rfl, by omega, by omega, by omega, by show z + 1 + 1 = _; omega, by first | rfl | trivial⟩, by simp [intOf]; omega⟩
  . obtain rfl : n = m := by omega
    go_wp2
    go_ret
    have e := hz.out
    subst e
    exact ⟨rfl, rfl⟩
theorem Qjg (row who epoch last : Int) (A A' : Option Addr) (cap cap' : Nat) (l : List Mk) (hl : l.length <= 9223372036854775807) (w : World) (hA : At w A l) (hA' : At w A' l) :
 Calls Tryz.prog 117 #[.agg #[.int .i64 row, .int .i64 who, .int .i64 epoch, .int .i64 last, .slice A l.length cap], .agg #[.int .i64 row, .int .i64 who, .int .i64 epoch, .int .i64 last, .slice A' l.length cap']] w fun e w' => e = .returned (.bool true) /\ Below w.heap.size w w' := by
 have HA : Hid (∀ W : World, Below w.heap.size w W -> At W A l) := fun W hW => hA.below hW
 have HA' : Hid (∀ W : World, Below w.heap.size w W -> At W A' l) := fun W hW => hA'.below hW
 clear hA hA'
 go_enter Tryz.func117, Tryz.ntmps117
 go_wp2_with (go_at_call 155; refine (eqMkS_same A A' cap cap' l hl _ (HA.out _ ?_) (HA'.out _ ?_)).mono ?_; (repeat (first | exact Below.refl _ _ | assumption | refine via0 (by assumption) ?_ | refine Below.drew ?_ | refine Qaa ?_ _)); (repeat (first | exact Below.refl _ _ | assumption | refine via0 (by assumption) ?_ | refine Below.drew ?_ | refine Qaa ?_ _)); rintro e w1 ⟨rfl, g1⟩)
 go_ret
 refine ⟨rfl, ?_⟩
 repeat (first | exact Below.refl _ _ | assumption | refine via0 (by assumption) ?_ | refine Below.drew ?_ | refine Qaa ?_ _)
structure MC where
  row : Int
  who : Int
  epoch : Int
  last : Int
  A : Option Addr
  cap : Nat
  ms : List Mk
instance : Inhabited MC := ⟨⟨0, 0, 0, 0, none, 0, []⟩⟩
instance : Cel MC where
  k := 5
  cs x := [.int .i64 x.row, .int .i64 x.who, .int .i64 x.epoch, .int .i64 x.last, .slice x.A x.ms.length x.cap]
  len _ := rfl
  one x u hu := by simp at hu; rcases hu with rfl | rfl | rfl | rfl | rfl<;>rfl
structure PM where
  row : Int
  who : Int
  epoch : Int
  last : Int
  ms : List Mk
def MC.p (x : MC) : PM := ⟨x.row, x.who, x.epoch, x.last, x.ms⟩
def Each (w : World) (l : List MC) : Prop := ∀ x ∈ l, At w x.A x.ms
theorem Each.below {w w' : World} {l : List MC} (h : Each w l) (hw : Below w.heap.size w w') : Each w' l := fun x hx => (h x hx).below hw
theorem In.getMC {w : World} {b o : Nat} {l : List MC} (h : In w b o l) (i : Nat) (hi : i < l.length) :
 w.cell? ⟨b, o + i * 5, none⟩ = some (.int .i64 l[i].row) /\ w.cell? ⟨b, o + i * 5 + 1, none⟩ = some (.int .i64 l[i].who) /\ w.cell? ⟨b, o + i * 5 + 2, none⟩ = some (.int .i64 l[i].epoch) /\
  w.cell? ⟨b, o + i * 5 + 3, none⟩ = some (.int .i64 l[i].last) /\ w.cell? ⟨b, o + i * 5 + 4, none⟩ = some (.slice l[i].A l[i].ms.length l[i].cap) :=
 ⟨h.cell i hi (f := 0) rfl, h.cell i hi (f := 1) rfl, h.cell i hi (f := 2) rfl, h.cell i hi (f := 3) rfl, h.cell i hi (f := 4) rfl⟩
theorem infoMC : (Tryz.prog.info? 139).map (fun i => (i.zero, i.size, i.bytes)) = some (some (.agg #[.int .i64 0, .int .i64 0, .int .i64 0, .int .i64 0, .slice none 0 0]), 5, 56) := by kernel_rfl
theorem Qhe (A A' : Option Addr) (cap cap' : Nat) (l l' : List MC) (hl : l.length <= 9223372036854775807) (hr : ∀ x ∈ l, x.ms.length <= 9223372036854775807) (hsame : l'.map MC.p = l.map MC.p) (w : World) (hA : At w A l) (hE : Each w l) (hA' : At w A' l') (hE' : Each w l') :
 Calls Tryz.prog 58 #[.slice A l.length cap, .slice A' l.length cap'] w fun e w' => e = .returned (.bool true) /\ Below w.heap.size w w' := by
 have HA := hidP hA
 have HE := hidP hE
 have HA' := hidP hA'
 have HE' := hidP hE'
 have Hr := hidP hr
 have HS := hidP hsame
 have HLL : Hid (l'.length = l.length) := by have := congrArg List.length hsame; show _ = _; simpa using this
 clear hA hE hA' hE' hr hsame
 go_enter Tryz.func58, Tryz.ntmps58
 go_wp2
 go_loopw [5] (fun i w' => ∃ (n : Nat), i = .int .i64 (n : Int) /\ n <= l.length /\ Below w.heap.size w w') (fun i _ => l.length - (intOf i).toNat)
 case atStart => exact ⟨0, rfl, by omega, Below.refl _ _⟩
 case round =>
  obtain ⟨n, rfl, hn, hbl⟩ := hrel
  by_cases hlt : n < l.length
  . have hll := HLL.out
    obtain ⟨b, o, rfl, hbs, hin⟩ : ∃ b o, A = some ⟨b, o, none⟩ /\ b < w.heap.size /\ In w b o l := by
     rcases HA.out with h | h
     . subst h; simp at hlt
     . exact h
    obtain ⟨b', o', rfl, hbs', hin'⟩ : ∃ b o, A' = some ⟨b, o, none⟩ /\ b < w.heap.size /\ In w b o l' := by
     rcases HA'.out with h | h
     . subst h; simp at hll; omega
     . exact h
    have hp : (l'[n]'(by omega)).p = l[n].p := by
     have h1 : (l'.map MC.p)[n]'(by simp; omega) = (l.map MC.p)[n]'(by simpa using hlt) := by simp only [HS.out]
     simpa using h1
    obtain ⟨c0, c1, c2, c3, c4⟩ := (hin.below hbs hbl).getMC n hlt
    obtain ⟨d0, d1, d2, d3, d4⟩ := (hin'.below hbs' hbl).getMC n (by omega)
    have hx := (HE.out _ (List.getElem_mem hlt)).below hbl
    have hx' := (HE'.out _ (List.getElem_mem (show n < l'.length by omega))).below hbl
    have hmsl := Hr.out _ (List.getElem_mem hlt)
    rw [show (l'[n]'(by omega)).row = l[n].row from congrArg PM.row hp] at d0
    rw [show (l'[n]'(by omega)).who = l[n].who from congrArg PM.who hp] at d1
    rw [show (l'[n]'(by omega)).epoch = l[n].epoch from congrArg PM.epoch hp] at d2
    rw [show (l'[n]'(by omega)).last = l[n].last from congrArg PM.last hp] at d3
    rw [show (l'[n]'(by omega)).ms = l[n].ms from congrArg PM.ms hp] at d4 hx'
    generalize (l'[n]'(by omega)).A = aa at d4 hx'
    generalize (l'[n]'(by omega)).cap = cc at d4
    generalize l[n] = x at c0 c1 c2 c3 c4 d0 d1 d2 d3 d4 hx hx' hmsl
    obtain ⟨row, who, epoch, last, xA, xc, ms⟩ := x
    simp only at c0 c1 c2 c3 c4 d0 d1 d2 d3 d4 hx hx' hmsl
    have hx := hidP hx
    have hx' := hidP hx'
    clear hp hll
    have hb1 : b < wr.heap.size := Nat.lt_of_lt_of_le hbs hbl.size
    have hb2 : b' < wr.heap.size := Nat.lt_of_lt_of_le hbs' hbl.size
    have hi0 : (0 : Int) <= (n : Int) := by omega
    have hi1 : (n : Int) < (l.length : Int) := by omega
    go_wp2
    go_region_held3 (fun w' => w'.cell? ⟨b, o + n * 5, none⟩ = some (.int .i64 row) /\ w'.cell? ⟨b, o + n * 5 + 1, none⟩ = some (.int .i64 who) /\ w'.cell? ⟨b, o + n * 5 + 2, none⟩ = some (.int .i64 epoch) /\ w'.cell? ⟨b, o + n * 5 + 3, none⟩ = some (.int .i64 last) /\ w'.cell? ⟨b, o + n * 5 + 4, none⟩ = some (.slice xA ms.length xc) /\
     w'.cell? ⟨b', o' + n * 5, none⟩ = some (.int .i64 row) /\ w'.cell? ⟨b', o' + n * 5 + 1, none⟩ = some (.int .i64 who) /\ w'.cell? ⟨b', o' + n * 5 + 2, none⟩ = some (.int .i64 epoch) /\ w'.cell? ⟨b', o' + n * 5 + 3, none⟩ = some (.int .i64 last) /\ w'.cell? ⟨b', o' + n * 5 + 4, none⟩ = some (.slice aa ms.length cc))
     (first | (go_split_ands; refine ⟨?_, ?_, ?_, ?_, ?_, ?_, ?_, ?_, ?_, ?_⟩<;>first | assumption | exact (k1 _ _ hb1).trans (by assumption) | exact (k1 _ _ hb2).trans (by assumption)) | go_keep)
     (first
      | (go_at_call 117; refine (Qjg row who epoch last xA aa xc cc ms hmsl _ (hx.out.below (Below.drew (Below.refl _ _))) (hx'.out.below (Below.drew (Below.refl _ _)))).mono ?_; rintro e w1 ⟨rfl, g1⟩; obtain ⟨k1, m1⟩ := Qaj g1))
    all_goals
     go_wp2
     exact ⟨⟨n + 1, by go_num, by omega, via0 g1 hbl.drew⟩, by simp [intOf]; omega⟩
  . go_wp2
    go_ret
    exact ⟨rfl, hbl⟩
end Go.Proofs.YtglegpkcikacoaaGreatDoor.Gen
