/-
  Answers at this seat: which are right by the specification and by the program, what the laws' toAnswer, szAnswer do; an answer opened. No condition but the length that every text has.
-/
import Derived.Test.YtlniljigeemnoaaGreatTexts
import Derived.Test.YtlniljigeemnoaaGreatGen
set_option linter.unusedVariables false
set_option linter.unusedSimpArgs false
set_option maxRecDepth 100000
set_option maxHeartbeats 8000000
namespace Go.Proofs.YtlniljigeemnoaaGreat.Gen
open ChangeShapes WideShapes ChangeAt RowKit Joins Deep Base
theorem four (p q r s : Bool) : p = false ∨ (p = true /\ q = false) ∨ (p = true /\ q = true /\ r = false) ∨ (p = true /\ q = true /\ r = true /\ s = false) ∨ (p = true /\ q = true /\ r = true /\ s = true) := by
 cases p<;>cases q<;>cases r<;>cases s<;>simp
structure Off (F : List Nat) (w w' : World) : Prop where
  os : w'.os = w.os
  tape : w'.tape = w.tape
  output : w'.output = w.output
  size : w.heap.size <= w'.heap.size
  block : ∀ k, k < w.heap.size -> k ∉ F -> w'.heap[k]? = w.heap[k]?
theorem Off.refl (F : List Nat) (w : World) : Off F w w := ⟨rfl, rfl, rfl, Nat.le_refl _, fun _ _ _ => rfl⟩
theorem Off.of_below {w w1 : World} (h : Below w.heap.size w w1) : Off [] w w1 := ⟨h.os, h.tape, h.output, h.size, fun i hi _ => h.block i hi⟩
theorem Off.of_only {b : Nat} {w w1 : World} (h : Only b w w1) : Off [b] w w1 := ⟨h.os, h.tape, h.output, h.size, fun i hi hb => h.block i hi (fun e => hb (by simp [e]))⟩
theorem Off.toBelow {F : List Nat} {B : Nat} {w w1 : World} (h : Off F w w1) (hF : ∀ x ∈ F, B <= x) (hw : B <= w.heap.size) : Below B w w1 :=
 ⟨h.os, h.tape, h.output, h.size, fun i hi => h.block i (by omega) (fun e => by have := hF i e; omega)⟩
theorem Off.cell {F : List Nat} {w w1 : World} (h : Off F w w1) {p : Addr} (hp : p.block < w.heap.size) (hb : p.block ∉ F) : w1.cell? p = w.cell? p := World.cell?_of_block (h.block p.block hp hb)
theorem Off.frozen {F : List Nat} {w w1 : World} (h : Off F w w1) {p : Addr} (hp : p.block < w.heap.size) (hb : p.block ∉ F) : w1.frozen? p = w.frozen? p := by
 unfold World.frozen?; rw [h.block p.block hp hb]
theorem Blk.off {F : List Nat} {W W' : World} {B : Nat} {t : TypeId} {vs : Array Value} (h : Blk W B t vs) (k : Off F W W') (hne : B ∉ F) : Blk W' B t vs := (k.block B h.lt hne).trans h
section
variable {α : Type} [Cel α]
theorem In.off {F : List Nat} {c o : Nat} {w w1 : World} {l : List α} (h : In w c o l) (k : Off F w w1) (hc : c < w.heap.size) (hb : c ∉ F) : In w1 c o l :=
 fun j v hv => (k.cell (p := ⟨c, o + j, none⟩) hc hb).trans (h j v hv)
theorem there_off {F : List Nat} {c o n : Nat} {w w1 : World} (h : w.there c o n) (k : Off F w w1) (hc : c < w.heap.size) (hb : c ∉ F) : w1.there c o n := fun j hj => by
 rw [k.cell (p := ⟨c, o + j, none⟩) hc hb, k.frozen (p := ⟨c, o + j, none⟩) hc hb]; exact h j hj
def Sl (w : World) (a : Option Addr) (l : List α) (F : List Nat) : Prop :=
  (l = [] /\ F = []) ∨ ∃ b o, a = some ⟨b, o, none⟩ /\ F = [b] /\ b < w.heap.size /\ In w b o l /\ w.there b o (l.length * Cel.k α)
theorem Sl.off {F G : List Nat} {w w1 : World} {a : Option Addr} {l : List α} (h : Sl w a l F) (k : Off G w w1) (hd : ∀ x ∈ F, x ∉ G) : Sl w1 a l F := by
 rcases h with h | ⟨b, o, rfl, rfl, hb, hi, ht⟩
 . exact .inl h
 . have := hd b (by simp)
   exact .inr ⟨b, o, rfl, rfl, Nat.lt_of_lt_of_le hb k.size, hi.off k hb this, there_off ht k hb this⟩
theorem Sl.below {F : List Nat} {w w1 : World} {a : Option Addr} {l : List α} (h : Sl w a l F) (k : Below w.heap.size w w1) : Sl w1 a l F := h.off (Off.of_below k) (by simp)
theorem Sl.at {F : List Nat} {w : World} {a : Option Addr} {l : List α} (h : Sl w a l F) : At w a l :=
 h.imp (fun e => e.1) fun ⟨b, o, e, _, hb, hi, _⟩ => ⟨b, o, e, hb, hi⟩
theorem Sl.lt {F : List Nat} {w : World} {a : Option Addr} {l : List α} (h : Sl w a l F) : ∀ x ∈ F, x < w.heap.size := by
 rcases h with ⟨_, rfl⟩ | ⟨b, o, _, rfl, hb, _⟩
 . simp
 . simpa using hb
theorem Sl.nil (w : World) (a : Option Addr) : Sl w a ([] : List α) [] := .inl ⟨rfl, rfl⟩
theorem Sl.nodup {F : List Nat} {w : World} {a : Option Addr} {l : List α} (h : Sl w a l F) : F.Nodup := by
 rcases h with ⟨_, rfl⟩ | ⟨b, o, _, rfl, _⟩<;>simp
theorem Sl.of_fresh {B : Nat} {w : World} {a : Option Addr} {n c : Nat} {l : List α} (h : Fresh B w (.slice a n c) l) : n = l.length /\ ∃ F, Sl w a l F /\ ∀ x ∈ F, B <= x := by
 obtain ⟨A, c', e, _, h⟩ := h
 cases e
 refine ⟨rfl, ?_⟩
 rcases h with h | ⟨b, o, e, hB, hb, hi, ht⟩
 . exact ⟨[], .inl ⟨h, rfl⟩, by simp⟩
 . exact ⟨[b], .inr ⟨b, o, e, rfl, hb, hi, ht⟩, by simpa using hB⟩
end
structure Offp (S : Nat -> Prop) (w w' : World) : Prop where
  os : w'.os = w.os
  tape : w'.tape = w.tape
  output : w'.output = w.output
  size : w.heap.size <= w'.heap.size
  block : ∀ k, k < w.heap.size -> ¬ S k -> w'.heap[k]? = w.heap[k]?
theorem Offp.refl (S : Nat -> Prop) (w : World) : Offp S w w := ⟨rfl, rfl, rfl, Nat.le_refl _, fun _ _ _ => rfl⟩
theorem Offp.trans {S : Nat -> Prop} {w w1 w2 : World} (h : Offp S w w1) (k : Offp S w1 w2) : Offp S w w2 :=
 ⟨k.os.trans h.os, k.tape.trans h.tape, k.output.trans h.output, Nat.le_trans h.size k.size, fun i hi hb => (k.block i (Nat.lt_of_lt_of_le hi h.size) hb).trans (h.block i hi hb)⟩
theorem Offp.mono {S T : Nat -> Prop} {w w1 : World} (h : Offp S w w1) (s : ∀ x, S x -> T x) : Offp T w w1 := ⟨h.os, h.tape, h.output, h.size, fun i hi hb => h.block i hi (fun e => hb (s i e))⟩
theorem Offp.of_below {S : Nat -> Prop} {w w1 : World} (h : Below w.heap.size w w1) : Offp S w w1 := ⟨h.os, h.tape, h.output, h.size, fun i hi _ => h.block i hi⟩
theorem Offp.of_only {b : Nat} {w w1 : World} (h : Only b w w1) : Offp (fun x => x = b) w w1 := ⟨h.os, h.tape, h.output, h.size, fun i hi hb => h.block i hi hb⟩
theorem Offp.below {S : Nat -> Prop} {w w1 w2 : World} (h : Offp S w w1) (k : Below w1.heap.size w1 w2) : Offp S w w2 := h.trans (Offp.of_below k)
theorem Offp.set {S : Nat -> Prop} {w w1 : World} (h : Offp S w w1) {b : Nat} (hb : S b) (o : Nat) (v : Value) : Offp S w (w1.setCell ⟨b, o, none⟩ v) :=
 h.trans ((Offp.of_only ((Only.refl b w1).set o v)).mono (fun x e => e ▸ hb))
theorem Offp.toBelow {S : Nat -> Prop} {B : Nat} {w w1 : World} (h : Offp S w w1) (hF : ∀ x, S x -> B <= x) (hw : B <= w.heap.size) : Below B w w1 :=
 ⟨h.os, h.tape, h.output, h.size, fun i hi => h.block i (by omega) (fun e => by have := hF i e; omega)⟩
theorem Offp.cell {S : Nat -> Prop} {w w1 : World} (h : Offp S w w1) {p : Addr} (hp : p.block < w.heap.size) (hb : ¬ S p.block) : w1.cell? p = w.cell? p := World.cell?_of_block (h.block p.block hp hb)
theorem Offp.frozen {S : Nat -> Prop} {w w1 : World} (h : Offp S w w1) {p : Addr} (hp : p.block < w.heap.size) (hb : ¬ S p.block) : w1.frozen? p = w.frozen? p := by
 unfold World.frozen?; rw [h.block p.block hp hb]
theorem Blk.offp {S : Nat -> Prop} {W W' : World} {B : Nat} {t : TypeId} {vs : Array Value} (h : Blk W B t vs) (k : Offp S W W') (hne : ¬ S B) : Blk W' B t vs := (k.block B h.lt hne).trans h
theorem Qdo {S : Nat -> Prop} {c o n : Nat} {w w1 : World} (h : w.there c o n) (k : Offp S w w1) (hc : c < w.heap.size) (hb : ¬ S c) : w1.there c o n := fun j hj => by
 rw [k.cell (p := ⟨c, o + j, none⟩) hc hb, k.frozen (p := ⟨c, o + j, none⟩) hc hb]; exact h j hj
section
variable {α : Type} [Cel α]
theorem In.offp {S : Nat -> Prop} {c o : Nat} {w w1 : World} {l : List α} (h : In w c o l) (k : Offp S w w1) (hc : c < w.heap.size) (hb : ¬ S c) : In w1 c o l :=
 fun j v hv => (k.cell (p := ⟨c, o + j, none⟩) hc hb).trans (h j v hv)
def Sub (w : World) (a : Option Addr) (l : List α) (S : Nat -> Prop) : Prop :=
  l = [] ∨ ∃ b o, a = some ⟨b, o, none⟩ /\ S b /\ b < w.heap.size /\ In w b o l /\ w.there b o (l.length * Cel.k α)
theorem Sub.offp {S T : Nat -> Prop} {w w1 : World} {a : Option Addr} {l : List α} (h : Sub w a l S) (k : Offp T w w1) (hd : ∀ x, S x -> ¬ T x) : Sub w1 a l S :=
 h.imp id fun ⟨b, o, e, hs, hb, hi, ht⟩ => ⟨b, o, e, hs, Nat.lt_of_lt_of_le hb k.size, hi.offp k hb (hd b hs), Qdo ht k hb (hd b hs)⟩
theorem Qg9 (l : List α) (n : Nat) (hn : n < l.length) (y : α) (f : Nat) (hf : f < Cel.k α) (v : Value) (hy : Cel.cs y = (Cel.cs l[n]).set f v) : flat (l.set n y) = (flat l).set (n * Cel.k α + f) v := by
 induction l generalizing n with
 | nil => simp at hn
 | cons x l ih =>
  cases n with
  | zero =>
   simp only [List.set_cons_zero, Qb2, Nat.zero_mul, Nat.zero_add]
   rw [List.set_append_left _ _ (by rw [Cel.len]; exact hf), hy]; rfl
  | succ n =>
   simp only [List.set_cons_succ, Qb2]
   rw [ih n (by simpa using hn) (by simpa using hy), List.set_append_right _ _ (by rw [Cel.len, Nat.add_mul]; omega), Cel.len]
   congr 2
   rw [Nat.add_mul]; omega
theorem In.set1 {w : World} {b o : Nat} {l : List α} (h : In w b o l) (n : Nat) (hn : n < l.length) (y : α) (f : Nat) (hf : f < Cel.k α) (v : Value) (hy : Cel.cs y = (Cel.cs l[n]).set f v) : In (w.setCell ⟨b, o + n * Cel.k α + f, none⟩ v) b o (l.set n y) := by
 intro j u hu
 rw [Qg9 l n hn y f hf v hy] at hu
 by_cases e : n * Cel.k α + f = j
 . subst e
   rw [List.getElem?_set_self (by rw [Qbq]; have : (n + 1) * Cel.k α <= l.length * Cel.k α := Nat.mul_le_mul_right _ hn; rw [Nat.add_mul] at this; omega)] at hu
   cases hu
   have hc := h.cell n hn (f := f) (v := (Cel.cs l[n])[f]'(by rw [Cel.len]; exact hf)) (List.getElem?_eq_getElem _)
   rw [← Nat.add_assoc]
   exact World.cell?_setCell_same' _ _ _ (by rw [hc]; rfl)
 . rw [List.getElem?_set_ne e] at hu
   rw [World.cell?_setCell_other (h := fun ee => by have := congrArg Addr.off ee; simp only at this; omega)]
   exact h j u hu
variable {P : World -> α -> (Nat -> Prop) -> Prop}
def Firm (P : World -> α -> (Nat -> Prop) -> Prop) : Prop := ∀ (w w' : World) (x : α) (S T : Nat -> Prop), P w x S -> Offp T w w' -> (∀ y, S y -> ¬ T y) -> P w' x S
structure OwnF (P : World -> α -> (Nat -> Prop) -> Prop) (w : World) (b o : Nat) (l : List α) (fp : Nat -> Nat -> Prop) : Prop where
  lt : b < w.heap.size
  lst : In w b o l
  th : w.there b o (l.length * Cel.k α)
  sub : ∀ (i : Nat) (h : i < l.length), P w l[i] (fp i)
  dis : ∀ i j, i ≠ j -> ∀ x, fp i x -> ¬ fp j x
  nb : ∀ i, ¬ fp i b
theorem OwnF.offp (hP : Firm P) {w w' : World} {b o : Nat} {l : List α} {fp : Nat -> Nat -> Prop} {T : Nat -> Prop} (h : OwnF P w b o l fp) (k : Offp T w w') (hb : ¬ T b) (hd : ∀ i x, fp i x -> ¬ T x) : OwnF P w' b o l fp :=
 ⟨Nat.lt_of_lt_of_le h.lt k.size, h.lst.offp k h.lt hb, Qdo h.th k h.lt hb, fun i hi => hP _ _ _ _ _ (h.sub i hi) k (hd i), h.dis, h.nb⟩
def Own (P : World -> α -> (Nat -> Prop) -> Prop) (w : World) (a : Option Addr) (l : List α) (S : Nat -> Prop) : Prop :=
  l = [] ∨ ∃ b o fp, a = some ⟨b, o, none⟩ /\ S b /\ (∀ i x, fp i x -> S x) /\ OwnF P w b o l fp
theorem Own.offp (hP : Firm P) {S T : Nat -> Prop} {w w1 : World} {a : Option Addr} {l : List α} (h : Own P w a l S) (k : Offp T w w1) (hd : ∀ x, S x -> ¬ T x) : Own P w1 a l S :=
 h.imp id fun ⟨b, o, fp, e, hs, hf, hO⟩ => ⟨b, o, fp, e, hs, hf, hO.offp hP k (hd b hs) (fun i x hx => hd x (hf i x hx))⟩
theorem Qco (w : World) (b : Nat) : ∀ (vs : List Value) (o : Nat), Only b w (w.setCells b o vs) := by
 intro vs
 induction vs generalizing w with
 | nil => intro o; exact Only.refl _ _
 | cons v vs ih =>
  intro o
  have h1 : Only b w (w.setCell ⟨b, o, none⟩ v) := (Only.refl b w).set o v
  have h2 := ih (w.setCell ⟨b, o, none⟩ v) (o + 1)
  exact ⟨h2.os.trans h1.os, h2.tape.trans h1.tape, h2.output.trans h1.output, Nat.le_trans h1.size h2.size, fun i hi hb => (h2.block i (Nat.lt_of_lt_of_le hi h1.size) hb).trans (h1.block i hi hb)⟩
end
theorem Qb5 {W W' : World} {row : Option Nat} (h : W.grownBy W' row) : Offp (fun x => row = some x) W W' := ⟨h.os, h.tape, h.output, h.size, fun k hk hn => h.block k hk (fun e => hn e.symm)⟩
theorem Qa9 {B : Nat} {W W' : World} {v : Value} {t : TypeId} {k n : Nat} {xs : List Value} {S : Nat -> Prop} (h : W.ownsRow B t k v n xs) (hg : Offp S W W') (hne : ∀ x, v.ownBlock = some x -> ¬ S x) : W'.ownsRow B t k v n xs := by
 refine ⟨h.1, ?_⟩
 rcases h.2 with ⟨rfl, rfl⟩ | ⟨g, c, cur, rfl, hB, hb, hc, hm, hsz, ht⟩
 . exact .inl ⟨rfl, rfl⟩
 . exact .inr ⟨g, c, cur, rfl, hB, Blk.offp (show Blk W g t cur from hb) hg (hne g rfl), hc, hm, hsz, ht⟩
section
variable {α : Type}
end
structure Mk where
  seq : Int
  off : Int
instance : Inhabited Mk := ⟨⟨0, 0⟩⟩
instance : Cel Mk where
  k := 2
  cs x := [.int .i64 x.seq, .int .i64 x.off]
  len _ := rfl
  one x u hu := by simp at hu; rcases hu with rfl | rfl<;>rfl
theorem In.getMk {w : World} {b o : Nat} {l : List Mk} (h : In w b o l) (i : Nat) (hi : i < l.length) :
 w.cell? ⟨b, o + i * 2, none⟩ = some (.int .i64 l[i].seq) /\ w.cell? ⟨b, o + i * 2 + 1, none⟩ = some (.int .i64 l[i].off) :=
 ⟨h.cell i hi (f := 0) rfl, h.cell i hi (f := 1) rfl⟩
theorem infoMk : (Tryz.prog.info? 126).map (fun i => (i.zero, i.size, i.bytes)) = some (some (.agg #[.int .i64 0, .int .i64 0]), 2, 16) := by kernel_rfl
structure MC where
  row : Int
  who : Int
  epoch : Int
  last : Int
  A : Option Addr
  cap : Nat
  ms : List Mk
instance : Inhabited MC := ⟨⟨0, 0, 0, 0, none, 0, []⟩⟩
instance : Cel MC where
  k := 5
  cs x := [.int .i64 x.row, .int .i64 x.who, .int .i64 x.epoch, .int .i64 x.last, .slice x.A x.ms.length x.cap]
  len _ := rfl
  one x u hu := by simp at hu; rcases hu with rfl | rfl | rfl | rfl | rfl<;>rfl
structure PM where
  row : Int
  who : Int
  epoch : Int
  last : Int
  ms : List Mk
def MC.p (x : MC) : PM := ⟨x.row, x.who, x.epoch, x.last, x.ms⟩
def Each (w : World) (l : List MC) : Prop := ∀ x ∈ l, At w x.A x.ms
theorem Each.below {w w' : World} {l : List MC} (h : Each w l) (hw : Below w.heap.size w w') : Each w' l := fun x hx => (h x hx).below hw
theorem In.getMC {w : World} {b o : Nat} {l : List MC} (h : In w b o l) (i : Nat) (hi : i < l.length) :
 w.cell? ⟨b, o + i * 5, none⟩ = some (.int .i64 l[i].row) /\ w.cell? ⟨b, o + i * 5 + 1, none⟩ = some (.int .i64 l[i].who) /\ w.cell? ⟨b, o + i * 5 + 2, none⟩ = some (.int .i64 l[i].epoch) /\
  w.cell? ⟨b, o + i * 5 + 3, none⟩ = some (.int .i64 l[i].last) /\ w.cell? ⟨b, o + i * 5 + 4, none⟩ = some (.slice l[i].A l[i].ms.length l[i].cap) :=
 ⟨h.cell i hi (f := 0) rfl, h.cell i hi (f := 1) rfl, h.cell i hi (f := 2) rfl, h.cell i hi (f := 3) rfl, h.cell i hi (f := 4) rfl⟩
theorem infoMC : (Tryz.prog.info? 124).map (fun i => (i.zero, i.size, i.bytes)) = some (some (.agg Qc2), 5, 56) := by kernel_rfl
end Go.Proofs.YtlniljigeemnoaaGreat.Gen
