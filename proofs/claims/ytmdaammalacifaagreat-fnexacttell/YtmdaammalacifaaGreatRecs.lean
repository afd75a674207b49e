/-
  Lists of records that have lists of their own: how they lie, each in blocks of its own, what stays when other blocks turn, and what one record's turning does. No condition.
-/
import Derived.Test.YtmdaammalacifaaGreatAns
set_option linter.unusedVariables false
set_option linter.unusedSimpArgs false
set_option maxRecDepth 100000
set_option maxHeartbeats 8000000
namespace Go.Proofs.YtmdaammalacifaaGreat.Gen
open ChangeShapes WideShapes ChangeAt RowKit Base
structure Offp (S : Nat -> Prop) (w w' : World) : Prop where
  os : w'.os = w.os
  tape : w'.tape = w.tape
  output : w'.output = w.output
  size : w.heap.size <= w'.heap.size
  block : ∀ k, k < w.heap.size -> ¬ S k -> w'.heap[k]? = w.heap[k]?
theorem Offp.refl (S : Nat -> Prop) (w : World) : Offp S w w := ⟨rfl, rfl, rfl, Nat.le_refl _, fun _ _ _ => rfl⟩
theorem Offp.trans {S : Nat -> Prop} {w w1 w2 : World} (h : Offp S w w1) (k : Offp S w1 w2) : Offp S w w2 :=
 ⟨k.os.trans h.os, k.tape.trans h.tape, k.output.trans h.output, Nat.le_trans h.size k.size, fun i hi hb => (k.block i (Nat.lt_of_lt_of_le hi h.size) hb).trans (h.block i hi hb)⟩
theorem Offp.mono {S T : Nat -> Prop} {w w1 : World} (h : Offp S w w1) (s : ∀ x, S x -> T x) : Offp T w w1 := ⟨h.os, h.tape, h.output, h.size, fun i hi hb => h.block i hi (fun e => hb (s i e))⟩
theorem Offp.of_below {S : Nat -> Prop} {w w1 : World} (h : Below w.heap.size w w1) : Offp S w w1 := ⟨h.os, h.tape, h.output, h.size, fun i hi _ => h.block i hi⟩
theorem Offp.of_only {b : Nat} {w w1 : World} (h : Only b w w1) : Offp (fun x => x = b) w w1 := ⟨h.os, h.tape, h.output, h.size, fun i hi hb => h.block i hi hb⟩
theorem Offp.of_off {F : List Nat} {w w1 : World} (h : Off F w w1) : Offp (fun x => x ∈ F) w w1 := ⟨h.os, h.tape, h.output, h.size, fun i hi hb => h.block i hi hb⟩
theorem Offp.below {S : Nat -> Prop} {w w1 w2 : World} (h : Offp S w w1) (k : Below w1.heap.size w1 w2) : Offp S w w2 := h.trans (Offp.of_below k)
theorem Offp.set {S : Nat -> Prop} {w w1 : World} (h : Offp S w w1) {b : Nat} (hb : S b) (o : Nat) (v : Value) : Offp S w (w1.setCell ⟨b, o, none⟩ v) :=
 h.trans ((Offp.of_only ((Only.refl b w1).set o v)).mono (fun x e => e ▸ hb))
theorem Offp.toBelow {S : Nat -> Prop} {B : Nat} {w w1 : World} (h : Offp S w w1) (hF : ∀ x, S x -> B <= x) (hw : B <= w.heap.size) : Below B w w1 :=
 ⟨h.os, h.tape, h.output, h.size, fun i hi => h.block i (by omega) (fun e => by have := hF i e; omega)⟩
theorem Offp.cell {S : Nat -> Prop} {w w1 : World} (h : Offp S w w1) {p : Addr} (hp : p.block < w.heap.size) (hb : ¬ S p.block) : w1.cell? p = w.cell? p := World.cell?_of_block (h.block p.block hp hb)
theorem Offp.frozen {S : Nat -> Prop} {w w1 : World} (h : Offp S w w1) {p : Addr} (hp : p.block < w.heap.size) (hb : ¬ S p.block) : w1.frozen? p = w.frozen? p := by
 unfold World.frozen?; rw [h.block p.block hp hb]
theorem Blk.offp {S : Nat -> Prop} {W W' : World} {B : Nat} {t : TypeId} {vs : Array Value} (h : Blk W B t vs) (k : Offp S W W') (hne : ¬ S B) : Blk W' B t vs := (k.block B h.lt hne).trans h
theorem Qb6 {S : Nat -> Prop} {c o n : Nat} {w w1 : World} (h : w.there c o n) (k : Offp S w w1) (hc : c < w.heap.size) (hb : ¬ S c) : w1.there c o n := fun j hj => by
 rw [k.cell (p := ⟨c, o + j, none⟩) hc hb, k.frozen (p := ⟨c, o + j, none⟩) hc hb]; exact h j hj
section
variable {α : Type} [Cel α]
theorem In.offp {S : Nat -> Prop} {c o : Nat} {w w1 : World} {l : List α} (h : In w c o l) (k : Offp S w w1) (hc : c < w.heap.size) (hb : ¬ S c) : In w1 c o l :=
 fun j v hv => (k.cell (p := ⟨c, o + j, none⟩) hc hb).trans (h j v hv)
def Sub (w : World) (a : Option Addr) (l : List α) (S : Nat -> Prop) : Prop :=
  l = [] ∨ ∃ b o, a = some ⟨b, o, none⟩ /\ S b /\ b < w.heap.size /\ In w b o l /\ w.there b o (l.length * Cel.k α)
theorem Sub.offp {S T : Nat -> Prop} {w w1 : World} {a : Option Addr} {l : List α} (h : Sub w a l S) (k : Offp T w w1) (hd : ∀ x, S x -> ¬ T x) : Sub w1 a l S :=
 h.imp id fun ⟨b, o, e, hs, hb, hi, ht⟩ => ⟨b, o, e, hs, Nat.lt_of_lt_of_le hb k.size, hi.offp k hb (hd b hs), Qb6 ht k hb (hd b hs)⟩
theorem Sub.mono {S T : Nat -> Prop} {w : World} {a : Option Addr} {l : List α} (h : Sub w a l S) (s : ∀ x, S x -> T x) : Sub w a l T :=
 h.imp id fun ⟨b, o, e, hs, r⟩ => ⟨b, o, e, s b hs, r⟩
theorem Sub.at {S : Nat -> Prop} {w : World} {a : Option Addr} {l : List α} (h : Sub w a l S) : At w a l :=
 h.imp id fun ⟨b, o, e, _, hb, hi, _⟩ => ⟨b, o, e, hb, hi⟩
theorem Sub.below {S : Nat -> Prop} {w w1 : World} {a : Option Addr} {l : List α} (h : Sub w a l S) (k : Below w.heap.size w w1) : Sub w1 a l S :=
 h.offp (Offp.of_below (S := fun _ => False) k) (fun _ _ e => e)
theorem Qfl (l : List α) (n : Nat) (hn : n < l.length) (y : α) (f : Nat) (hf : f < Cel.k α) (v : Value) (hy : Cel.cs y = (Cel.cs l[n]).set f v) : flat (l.set n y) = (flat l).set (n * Cel.k α + f) v := by
 induction l generalizing n with
 | nil => simp at hn
 | cons x l ih =>
  cases n with
  | zero =>
   simp only [List.set_cons_zero, Qcq, Nat.zero_mul, Nat.zero_add]
   rw [List.set_append_left _ _ (by rw [Cel.len]; exact hf), hy]; rfl
  | succ n =>
   simp only [List.set_cons_succ, Qcq]
   rw [ih n (by simpa using hn) (by simpa using hy), List.set_append_right _ _ (by rw [Cel.len, Nat.add_mul]; omega), Cel.len]
   congr 2
   rw [Nat.add_mul]; omega
theorem In.set1 {w : World} {b o : Nat} {l : List α} (h : In w b o l) (n : Nat) (hn : n < l.length) (y : α) (f : Nat) (hf : f < Cel.k α) (v : Value) (hy : Cel.cs y = (Cel.cs l[n]).set f v) : In (w.setCell ⟨b, o + n * Cel.k α + f, none⟩ v) b o (l.set n y) := by
 intro j u hu
 rw [Qfl l n hn y f hf v hy] at hu
 by_cases e : n * Cel.k α + f = j
 . subst e
   rw [List.getElem?_set_self (by rw [Qaw]; have : (n + 1) * Cel.k α <= l.length * Cel.k α := Nat.mul_le_mul_right _ hn; rw [Nat.add_mul] at this; omega)] at hu
   cases hu
   have hc := h.cell n hn (f := f) (v := (Cel.cs l[n])[f]'(by rw [Cel.len]; exact hf)) (List.getElem?_eq_getElem _)
   rw [← Nat.add_assoc]
   exact World.cell?_setCell_same' _ _ _ (by rw [hc]; rfl)
 . rw [List.getElem?_set_ne e] at hu
   rw [World.cell?_setCell_other (h := fun ee => by have := congrArg Addr.off ee; simp only at this; omega)]
   exact h j u hu
variable {P : World -> α -> (Nat -> Prop) -> Prop}
def Firm (P : World -> α -> (Nat -> Prop) -> Prop) : Prop := ∀ (w w' : World) (x : α) (S T : Nat -> Prop), P w x S -> Offp T w w' -> (∀ y, S y -> ¬ T y) -> P w' x S
structure OwnF (P : World -> α -> (Nat -> Prop) -> Prop) (w : World) (b o : Nat) (l : List α) (fp : Nat -> Nat -> Prop) : Prop where
  lt : b < w.heap.size
  lst : In w b o l
  th : w.there b o (l.length * Cel.k α)
  sub : ∀ (i : Nat) (h : i < l.length), P w l[i] (fp i)
  dis : ∀ i j, i ≠ j -> ∀ x, fp i x -> ¬ fp j x
  nb : ∀ i, ¬ fp i b
theorem OwnF.offp (hP : Firm P) {w w' : World} {b o : Nat} {l : List α} {fp : Nat -> Nat -> Prop} {T : Nat -> Prop} (h : OwnF P w b o l fp) (k : Offp T w w') (hb : ¬ T b) (hd : ∀ i x, fp i x -> ¬ T x) : OwnF P w' b o l fp :=
 ⟨Nat.lt_of_lt_of_le h.lt k.size, h.lst.offp k h.lt hb, Qb6 h.th k h.lt hb, fun i hi => hP _ _ _ _ _ (h.sub i hi) k (hd i), h.dis, h.nb⟩
theorem OwnF.below (hP : Firm P) {w w' : World} {b o : Nat} {l : List α} {fp : Nat -> Nat -> Prop} (h : OwnF P w b o l fp) (k : Below w.heap.size w w') : OwnF P w' b o l fp :=
 h.offp hP (Offp.of_below (S := fun _ => False) k) (fun e => e) (fun _ _ _ e => e)
theorem OwnF.set1 (hP : Firm P) {w : World} {b o : Nat} {l : List α} {fp : Nat -> Nat -> Prop} (h : OwnF P w b o l fp) (n : Nat) (hn : n < l.length) (y : α) (f : Nat) (hf : f < Cel.k α) (v : Value) (hy : Cel.cs y = (Cel.cs l[n]).set f v)
 (hs : ∀ W S, P W l[n] S -> P W y S) : OwnF P (w.setCell ⟨b, o + n * Cel.k α + f, none⟩ v) b o (l.set n y) fp := by
 have k : Offp (fun x => x = b) w (w.setCell ⟨b, o + n * Cel.k α + f, none⟩ v) := Offp.of_only ((Only.refl b w).set _ v)
 refine ⟨by simpa using h.lt, h.lst.set1 n hn y f hf v hy, by rw [List.length_set]; exact Qah h.th _ _ _, fun i hi => ?_, h.dis, h.nb⟩
 have hi' : i < l.length := by simpa using hi
 have hk : P (w.setCell ⟨b, o + n * Cel.k α + f, none⟩ v) l[i] (fp i) := hP _ _ _ _ _ (h.sub i hi') k (fun y hy e => h.nb i (e ▸ hy))
 by_cases e : n = i
 . subst e
   rw [List.getElem_set_self]
   exact hs _ _ hk
 . rw [List.getElem_set_ne e]; exact hk
theorem OwnF.turn (hP : Firm P) {w w' : World} {b o : Nat} {l : List α} {fp : Nat -> Nat -> Prop} (h : OwnF P w b o l fp) (n : Nat) (hn : n < l.length) (y : α) (hc : Cel.cs y = Cel.cs l[n]) (k : Offp (fp n) w w') (hy : P w' y (fp n)) : OwnF P w' b o (l.set n y) fp := by
 refine ⟨Nat.lt_of_lt_of_le h.lt k.size, ?_, ?_, fun i hi => ?_, h.dis, h.nb⟩
 . have e : flat (l.set n y) = flat l := by
    unfold flat
    rw [List.flatMap_def, List.flatMap_def, List.map_set, hc, ← List.map_set, List.set_getElem_self]
   show w'.rangeAt b o _
   rw [e]
   exact h.lst.offp k h.lt (h.nb n)
 . rw [List.length_set]; exact Qb6 h.th k h.lt (h.nb n)
 . have hi' : i < l.length := by simpa using hi
   by_cases e : n = i
   . subst e; rw [List.getElem_set_self]; exact hy
   . rw [List.getElem_set_ne e]; exact hP _ _ _ _ _ (h.sub i hi') k (fun x hx => h.dis i n (fun e' => e e'.symm) x hx)
def Own (P : World -> α -> (Nat -> Prop) -> Prop) (w : World) (a : Option Addr) (l : List α) (S : Nat -> Prop) : Prop :=
  l = [] ∨ ∃ b o fp, a = some ⟨b, o, none⟩ /\ S b /\ (∀ i x, fp i x -> S x) /\ OwnF P w b o l fp
theorem Own.offp (hP : Firm P) {S T : Nat -> Prop} {w w1 : World} {a : Option Addr} {l : List α} (h : Own P w a l S) (k : Offp T w w1) (hd : ∀ x, S x -> ¬ T x) : Own P w1 a l S :=
 h.imp id fun ⟨b, o, fp, e, hs, hf, hO⟩ => ⟨b, o, fp, e, hs, hf, hO.offp hP k (hd b hs) (fun i x hx => hd x (hf i x hx))⟩
theorem Own.below (hP : Firm P) {S : Nat -> Prop} {w w1 : World} {a : Option Addr} {l : List α} (h : Own P w a l S) (k : Below w.heap.size w w1) : Own P w1 a l S :=
 h.offp hP (Offp.of_below (S := fun _ => False) k) (fun _ _ e => e)
theorem Own.mono {S T : Nat -> Prop} {w : World} {a : Option Addr} {l : List α} (h : Own P w a l S) (s : ∀ x, S x -> T x) : Own P w a l T :=
 h.imp id fun ⟨b, o, fp, e, hs, hf, hO⟩ => ⟨b, o, fp, e, s b hs, fun i x hx => s x (hf i x hx), hO⟩
theorem Own.at {S : Nat -> Prop} {w : World} {a : Option Addr} {l : List α} (h : Own P w a l S) : At w a l :=
 h.imp id fun ⟨b, o, fp, e, _, _, hO⟩ => ⟨b, o, e, hO.lt, hO.lst⟩
theorem Own.each {S : Nat -> Prop} {w : World} {a : Option Addr} {l : List α} (h : Own P w a l S) {Q : α -> Prop} (hQ : ∀ x S, P w x S -> Q x) : ∀ x ∈ l, Q x := by
 rcases h with rfl | ⟨b, o, fp, e, _, _, hO⟩
 . simp
 . intro x hx
   obtain ⟨i, hi, rfl⟩ := List.getElem_of_mem hx
   exact hQ _ _ (hO.sub i hi)
theorem Qgq {w : World} {b m : Nat} {pre : List α} {x : α} (hin : In w b 0 pre) (hth : w.there b 0 (m * Cel.k α)) (hn : pre.length < m) :
 In (w.setCells b (pre.length * Cel.k α) (Cel.cs x)) b 0 (pre ++ [x]) /\ (w.setCells b (pre.length * Cel.k α) (Cel.cs x)).there b 0 (m * Cel.k α) := by
 have hlen : (flat pre).length = pre.length * Cel.k α := Qaw _
 refine ⟨?_, World.there_setCells hth _ _ _⟩
 unfold In
 rw [Qa2, Qbe]
 refine Qbg (World.rangeAt_setCells_apart hin _ _ _ (.inr (.inl (by rw [hlen]; omega)))) ?_
 rw [hlen, Nat.zero_add]
 refine World.rangeAt_setCells_same _ _ _ _ fun j hj => ?_
 have hj' : j < Cel.k α := by rwa [Cel.len] at hj
 have hlt : pre.length * Cel.k α + j < m * Cel.k α := by have : (pre.length + 1) * Cel.k α <= m * Cel.k α := Nat.mul_le_mul_right _ hn; rw [Nat.add_mul] at this; omega
 have := hth (pre.length * Cel.k α + j) hlt
 rwa [Nat.zero_add] at this
theorem Qfk (w : World) (b : Nat) : ∀ (vs : List Value) (o : Nat), Only b w (w.setCells b o vs) := by
 intro vs
 induction vs generalizing w with
 | nil => intro o; exact Only.refl _ _
 | cons v vs ih =>
  intro o
  have h1 : Only b w (w.setCell ⟨b, o, none⟩ v) := (Only.refl b w).set o v
  have h2 := ih (w.setCell ⟨b, o, none⟩ v) (o + 1)
  exact ⟨h2.os.trans h1.os, h2.tape.trans h1.tape, h2.output.trans h1.output, Nat.le_trans h1.size h2.size, fun i hi hb => (h2.block i (Nat.lt_of_lt_of_le hi h1.size) hb).trans (h1.block i hi hb)⟩
def Grow (P : World -> α -> (Nat -> Prop) -> Prop) (w : World) (b m : Nat) (pre : List α) : Prop :=
  ∃ fp, OwnF P w b 0 pre fp /\ w.there b 0 (m * Cel.k α) /\ ∀ i x, fp i x -> i < pre.length /\ b < x /\ x < w.heap.size
theorem Grow.start {w : World} {b m : Nat} (hb : b < w.heap.size) (hth : w.there b 0 (m * Cel.k α)) : Grow P w b m [] :=
 ⟨fun _ _ => False, ⟨hb, In.nil _ _ _, fun j hj => by simp at hj, fun i h => by simp at h, fun _ _ _ _ h => h.elim, fun _ h => h⟩, hth, fun _ _ h => h.elim⟩
theorem Grow.snoc (hP : Firm P) {w w1 : World} {b m : Nat} {pre : List α} (h : Grow P w b m pre) (hn : pre.length < m) (g : Below w.heap.size w w1) {y : α} {S : Nat -> Prop} (hy : P w1 y S) (hS : ∀ x, S x -> w.heap.size <= x /\ x < w1.heap.size) :
 Grow P (w1.setCells b (pre.length * Cel.k α) (Cel.cs y)) b m (pre ++ [y]) := by
 obtain ⟨fp, hO, hth, hfp⟩ := h
 have hO1 := hO.below hP g
 have ht1 := Qa3 hth hO.lt g
 obtain ⟨k1, k2⟩ := Qgq (x := y) hO1.lst ht1 hn
 have ko := Qfk w1 b (Cel.cs y) (pre.length * Cel.k α)
 have kp := Offp.of_only ko
 have hbS : ∀ x, S x -> x ≠ b := fun x hx e => by have := (hS x hx).1; have := hO.lt; omega
 refine ⟨fun i => if i = pre.length then S else fp i, ⟨Nat.lt_of_lt_of_le hO1.lt ko.size, k1, ?_, ?_, ?_, ?_⟩, k2, ?_⟩
 . intro j hj
   refine k2 j (Nat.lt_of_lt_of_le hj (Nat.mul_le_mul_right _ ?_))
   simp; omega
 . intro i hi
   by_cases e : i = pre.length
   . subst e
     simp only [if_true]
     rw [List.getElem_append_right (Nat.le_refl _)]
     simp only [Nat.sub_self, List.getElem_cons_zero]
     exact hP _ _ _ _ _ hy kp (fun x hx => hbS x hx)
   . have hi' : i < pre.length := by simp at hi; omega
     simp only [if_neg e]
     rw [List.getElem_append_left hi']
     exact hP _ _ _ _ _ (hO1.sub i hi') kp (fun x hx e2 => by have := (hfp i x hx).2.1; omega)
 . intro i j hij x hx hx'
   by_cases e1 : i = pre.length
   . by_cases e2 : j = pre.length
     . omega
     . simp only [if_pos e1] at hx
       simp only [if_neg e2] at hx'
       have := (hS x hx).1
       have := (hfp j x hx').2.2
       omega
   . by_cases e2 : j = pre.length
     . simp only [if_neg e1] at hx
       simp only [if_pos e2] at hx'
       have := (hS x hx').1
       have := (hfp i x hx).2.2
       omega
     . simp only [if_neg e1] at hx
       simp only [if_neg e2] at hx'
       exact hO.dis i j hij x hx hx'
 . intro i hx
   by_cases e1 : i = pre.length
   . simp only [if_pos e1] at hx; exact hbS b hx rfl
   . simp only [if_neg e1] at hx; exact hO.nb i hx
 . intro i x hx
   have hs := ko.size
   by_cases e1 : i = pre.length
   . simp only [if_pos e1] at hx
     have := hS x hx
     have := hO.lt
     exact ⟨by simp; omega, by omega, by omega⟩
   . simp only [if_neg e1] at hx
     have := hfp i x hx
     have := g.size
     exact ⟨by simp; omega, by omega, by omega⟩
theorem Grow.own {w : World} {b m : Nat} {pre : List α} (h : Grow P w b m pre) : Own P w (some ⟨b, 0, none⟩) pre (fun x => b <= x /\ x < w.heap.size) := by
 obtain ⟨fp, hO, _, hfp⟩ := h
 exact .inr ⟨b, 0, fp, rfl, ⟨Nat.le_refl _, hO.lt⟩, fun i x hx => by have := hfp i x hx; exact ⟨by omega, this.2.2⟩, hO⟩
theorem Grow.th {w : World} {b m : Nat} {pre : List α} (h : Grow P w b m pre) : w.there b 0 (m * Cel.k α) := by
 obtain ⟨fp, _, h, _⟩ := h; exact h
end
theorem Qcv {W W' : World} {row : Option Nat} (h : W.grownBy W' row) : Offp (fun x => row = some x) W W' := ⟨h.os, h.tape, h.output, h.size, fun k hk hn => h.block k hk (fun e => hn e.symm)⟩
theorem Qcg {B : Nat} {W W' : World} {v : Value} {t : TypeId} {k n : Nat} {xs : List Value} {S : Nat -> Prop} (h : W.ownsRow B t k v n xs) (hg : Offp S W W') (hne : ∀ x, v.ownBlock = some x -> ¬ S x) : W'.ownsRow B t k v n xs := by
 refine ⟨h.1, ?_⟩
 rcases h.2 with ⟨rfl, rfl⟩ | ⟨g, c, cur, rfl, hB, hb, hc, hm, hsz, ht⟩
 . exact .inl ⟨rfl, rfl⟩
 . exact .inr ⟨g, c, cur, rfl, hB, Blk.offp (show Blk W g t cur from hb) hg (hne g rfl), hc, hm, hsz, ht⟩
section
variable {α : Type}
def marked (m : α -> Int -> α) (c : α -> Nat) : List α -> Int -> List α
  | [], _ => []
  | x :: l, z => m x z :: marked m c l (z + c x)
def Qae (c : α -> Nat) (l : List α) : Nat := (l.map c).sum
theorem Qbd (m : α -> Int -> α) (c : α -> Nat) (l : List α) : ∀ z, (marked m c l z).length = l.length := by
 induction l with
 | nil => intro z; rfl
 | cons x l ih => intro z; simp [marked, ih]
theorem Qas (c : α -> Nat) (l : List α) (n : Nat) (hn : n < l.length) : Qae c (l.take (n + 1)) = Qae c (l.take n) + c l[n] := by
 unfold Qae; rw [List.take_succ_eq_append_getElem hn, List.map_append, List.sum_append]; simp
theorem Qcb (c : α -> Nat) (l : List α) (n : Nat) : Qae c (l.take n) <= Qae c l := by
 have e : Qae c l = Qae c (l.take n) + Qae c (l.drop n) := by
  unfold Qae; rw [← List.sum_append, ← List.map_append, List.take_append_drop]
 omega
theorem Qdb (c : α -> Nat) (l : List α) : ∀ x ∈ l, c x <= Qae c l := by
 induction l with
 | nil => simp
 | cons a l ih =>
  intro x hx
  rcases List.mem_cons.1 hx with rfl | hx
  . simp [Qae]
  . have := ih x hx; simp only [Qae, List.map_cons, List.sum_cons] at this ⊢; omega
theorem Qb4 (c : α -> Nat) (l : List α) (n : Nat) (hn : l.length <= n) : Qae c (l.take n) = Qae c l := by rw [List.take_of_length_le hn]
def half (m : α -> Int -> α) (c : α -> Nat) (l : List α) (k : Int) (n : Nat) : List α := marked m c (l.take n) k ++ l.drop n
theorem Qc8 (m : α -> Int -> α) (c : α -> Nat) (l : List α) (k : Int) : half m c l k 0 = l := by simp [half, marked]
theorem Qds (m : α -> Int -> α) (c : α -> Nat) (l : List α) (k : Int) (n : Nat) (hn : l.length <= n) : half m c l k n = marked m c l k := by simp [half, List.take_of_length_le hn, List.drop_eq_nil_of_le hn]
theorem Qcm (m : α -> Int -> α) (c : α -> Nat) (l : List α) (k : Int) (n : Nat) : (half m c l k n).length = l.length := by
 simp only [half, List.length_append, Qbd, List.length_take, List.length_drop]; omega
theorem Qdr (m : α -> Int -> α) (c : α -> Nat) (l : List α) (k : Int) (n : Nat) (hn : n < l.length) (h : n < (half m c l k n).length) : (half m c l k n)[n] = l[n] := by
 have hl : (marked m c (l.take n) k).length = n := by rw [Qbd, List.length_take]; omega
 simp only [half]
 rw [List.getElem_append_right (by omega)]
 simp [hl]
theorem Qez (m : α -> Int -> α) (c : α -> Nat) (l r : List α) : ∀ k, marked m c (l ++ r) k = marked m c l k ++ marked m c r (k + Qae c l) := by
 induction l with
 | nil => intro k; simp [marked, Qae]
 | cons x l ih =>
  intro k
  have e : k + (c x : Int) + (Qae c l : Int) = k + (Qae c (x :: l) : Int) := by simp only [Qae, List.map_cons, List.sum_cons]; omega
  simp only [List.cons_append, marked, ih, e]
theorem Qc9 (m : α -> Int -> α) (c : α -> Nat) (l : List α) (k : Int) (n : Nat) (hn : n < l.length) : half m c l k (n + 1) = (half m c l k n).set n (m l[n] (k + Qae c (l.take n))) := by
 have hl : (marked m c (l.take n) k).length = n := by rw [Qbd, List.length_take]; omega
 unfold half
 rw [List.take_succ_eq_append_getElem hn, Qez, List.set_append_right _ _ (by omega), hl, Nat.sub_self, List.drop_eq_getElem_cons hn, List.append_assoc]
 rfl
theorem Qcw (m : α -> Int -> α) (c : α -> Nat) (l : List α) (n : Nat) (hn : n < l.length) : ∀ (k : Int) (h : n < (marked m c l k).length), (marked m c l k)[n] = m l[n] (k + Qae c (l.take n)) := by
 induction l generalizing n with
 | nil => simp at hn
 | cons x l ih =>
  intro k h
  cases n with
  | zero => simp [marked, Qae]
  | succ n =>
   simp only [marked, List.getElem_cons_succ]
   have e : k + (c x : Int) + (Qae c (l.take n) : Int) = k + (Qae c ((x :: l).take (n + 1)) : Int) := by simp only [Qae, List.take_succ_cons, List.map_cons, List.sum_cons]; omega
   rw [ih n (by simpa using hn), e]
end
end Go.Proofs.YtmdaammalacifaaGreat.Gen
