/-
  Lists of records that have lists of their own: how they lie, each in blocks of its own, what stays when other blocks turn, and what one record's turning does. No condition.
-/
import Derived.Test.YtkmkldjipihceaaGreatBase
set_option linter.unusedVariables false
set_option linter.unusedSimpArgs false
set_option maxRecDepth 100000
set_option maxHeartbeats 8000000
set_option maxRecDepth 100000
set_option maxHeartbeats 8000000
namespace Go.Proofs.YtkmkldjipihceaaGreat.Gen
open ChangeShapes WideShapes ChangeAt RowKit Base
structure Offp (S : Nat -> Prop) (w w' : World) : Prop where
  os : w'.os = w.os
  tape : w'.tape = w.tape
  output : w'.output = w.output
  size : w.heap.size <= w'.heap.size
  block : ∀ k, k < w.heap.size -> ¬ S k -> w'.heap[k]? = w.heap[k]?
theorem Offp.refl (S : Nat -> Prop) (w : World) : Offp S w w := ⟨rfl, rfl, rfl, Nat.le_refl _, fun _ _ _ => rfl⟩
theorem Offp.trans {S : Nat -> Prop} {w w1 w2 : World} (h : Offp S w w1) (k : Offp S w1 w2) : Offp S w w2 :=
 ⟨k.os.trans h.os, k.tape.trans h.tape, k.output.trans h.output, Nat.le_trans h.size k.size, fun i hi hb => (k.block i (Nat.lt_of_lt_of_le hi h.size) hb).trans (h.block i hi hb)⟩
theorem Offp.mono {S T : Nat -> Prop} {w w1 : World} (h : Offp S w w1) (s : ∀ x, S x -> T x) : Offp T w w1 := ⟨h.os, h.tape, h.output, h.size, fun i hi hb => h.block i hi (fun e => hb (s i e))⟩
theorem Offp.of_below {S : Nat -> Prop} {w w1 : World} (h : Below w.heap.size w w1) : Offp S w w1 := ⟨h.os, h.tape, h.output, h.size, fun i hi _ => h.block i hi⟩
theorem Offp.of_only {b : Nat} {w w1 : World} (h : Only b w w1) : Offp (fun x => x = b) w w1 := ⟨h.os, h.tape, h.output, h.size, fun i hi hb => h.block i hi hb⟩
theorem Offp.set {S : Nat -> Prop} {w w1 : World} (h : Offp S w w1) {b : Nat} (hb : S b) (o : Nat) (v : Value) : Offp S w (w1.setCell ⟨b, o, none⟩ v) :=
 h.trans ((Offp.of_only ((Only.refl b w1).set o v)).mono (fun x e => e ▸ hb))
theorem Offp.toBelow {S : Nat -> Prop} {B : Nat} {w w1 : World} (h : Offp S w w1) (hF : ∀ x, S x -> B <= x) (hw : B <= w.heap.size) : Below B w w1 :=
 ⟨h.os, h.tape, h.output, h.size, fun i hi => h.block i (by omega) (fun e => by have := hF i e; omega)⟩
theorem Offp.cell {S : Nat -> Prop} {w w1 : World} (h : Offp S w w1) {p : Addr} (hp : p.block < w.heap.size) (hb : ¬ S p.block) : w1.cell? p = w.cell? p := World.cell?_of_block (h.block p.block hp hb)
theorem Offp.frozen {S : Nat -> Prop} {w w1 : World} (h : Offp S w w1) {p : Addr} (hp : p.block < w.heap.size) (hb : ¬ S p.block) : w1.frozen? p = w.frozen? p := by
 unfold World.frozen?; rw [h.block p.block hp hb]
theorem Blk.offp {S : Nat -> Prop} {W W' : World} {B : Nat} {t : TypeId} {vs : Array Value} (h : Blk W B t vs) (k : Offp S W W') (hne : ¬ S B) : Blk W' B t vs := (k.block B h.lt hne).trans h
theorem Qc4 {S : Nat -> Prop} {c o n : Nat} {w w1 : World} (h : w.there c o n) (k : Offp S w w1) (hc : c < w.heap.size) (hb : ¬ S c) : w1.there c o n := fun j hj => by
 rw [k.cell (p := ⟨c, o + j, none⟩) hc hb, k.frozen (p := ⟨c, o + j, none⟩) hc hb]; exact h j hj
section
variable {α : Type} [Cel α]
theorem In.offp {S : Nat -> Prop} {c o : Nat} {w w1 : World} {l : List α} (h : In w c o l) (k : Offp S w w1) (hc : c < w.heap.size) (hb : ¬ S c) : In w1 c o l :=
 fun j v hv => (k.cell (p := ⟨c, o + j, none⟩) hc hb).trans (h j v hv)
def Sub (w : World) (a : Option Addr) (l : List α) (S : Nat -> Prop) : Prop :=
  l = [] ∨ ∃ b o, a = some ⟨b, o, none⟩ /\ S b /\ b < w.heap.size /\ In w b o l /\ w.there b o (l.length * Cel.k α)
theorem Sub.offp {S T : Nat -> Prop} {w w1 : World} {a : Option Addr} {l : List α} (h : Sub w a l S) (k : Offp T w w1) (hd : ∀ x, S x -> ¬ T x) : Sub w1 a l S :=
 h.imp id fun ⟨b, o, e, hs, hb, hi, ht⟩ => ⟨b, o, e, hs, Nat.lt_of_lt_of_le hb k.size, hi.offp k hb (hd b hs), Qc4 ht k hb (hd b hs)⟩
theorem Sub.mono {S T : Nat -> Prop} {w : World} {a : Option Addr} {l : List α} (h : Sub w a l S) (s : ∀ x, S x -> T x) : Sub w a l T :=
 h.imp id fun ⟨b, o, e, hs, r⟩ => ⟨b, o, e, s b hs, r⟩
theorem Sub.at {S : Nat -> Prop} {w : World} {a : Option Addr} {l : List α} (h : Sub w a l S) : At w a l :=
 h.imp id fun ⟨b, o, e, _, hb, hi, _⟩ => ⟨b, o, e, hb, hi⟩
theorem Sub.below {S : Nat -> Prop} {w w1 : World} {a : Option Addr} {l : List α} (h : Sub w a l S) (k : Below w.heap.size w w1) : Sub w1 a l S :=
 h.offp (Offp.of_below (S := fun _ => False) k) (fun _ _ e => e)
variable {P : World -> α -> (Nat -> Prop) -> Prop}
def Firm (P : World -> α -> (Nat -> Prop) -> Prop) : Prop := ∀ (w w' : World) (x : α) (S T : Nat -> Prop), P w x S -> Offp T w w' -> (∀ y, S y -> ¬ T y) -> P w' x S
structure OwnF (P : World -> α -> (Nat -> Prop) -> Prop) (w : World) (b o : Nat) (l : List α) (fp : Nat -> Nat -> Prop) : Prop where
  lt : b < w.heap.size
  lst : In w b o l
  th : w.there b o (l.length * Cel.k α)
  sub : ∀ (i : Nat) (h : i < l.length), P w l[i] (fp i)
  dis : ∀ i j, i ≠ j -> ∀ x, fp i x -> ¬ fp j x
  nb : ∀ i, ¬ fp i b
theorem OwnF.offp (hP : Firm P) {w w' : World} {b o : Nat} {l : List α} {fp : Nat -> Nat -> Prop} {T : Nat -> Prop} (h : OwnF P w b o l fp) (k : Offp T w w') (hb : ¬ T b) (hd : ∀ i x, fp i x -> ¬ T x) : OwnF P w' b o l fp :=
 ⟨Nat.lt_of_lt_of_le h.lt k.size, h.lst.offp k h.lt hb, Qc4 h.th k h.lt hb, fun i hi => hP _ _ _ _ _ (h.sub i hi) k (hd i), h.dis, h.nb⟩
theorem OwnF.below (hP : Firm P) {w w' : World} {b o : Nat} {l : List α} {fp : Nat -> Nat -> Prop} (h : OwnF P w b o l fp) (k : Below w.heap.size w w') : OwnF P w' b o l fp :=
 h.offp hP (Offp.of_below (S := fun _ => False) k) (fun e => e) (fun _ _ _ e => e)
def Own (P : World -> α -> (Nat -> Prop) -> Prop) (w : World) (a : Option Addr) (l : List α) (S : Nat -> Prop) : Prop :=
  l = [] ∨ ∃ b o fp, a = some ⟨b, o, none⟩ /\ S b /\ (∀ i x, fp i x -> S x) /\ OwnF P w b o l fp
theorem Own.offp (hP : Firm P) {S T : Nat -> Prop} {w w1 : World} {a : Option Addr} {l : List α} (h : Own P w a l S) (k : Offp T w w1) (hd : ∀ x, S x -> ¬ T x) : Own P w1 a l S :=
 h.imp id fun ⟨b, o, fp, e, hs, hf, hO⟩ => ⟨b, o, fp, e, hs, hf, hO.offp hP k (hd b hs) (fun i x hx => hd x (hf i x hx))⟩
theorem Own.below (hP : Firm P) {S : Nat -> Prop} {w w1 : World} {a : Option Addr} {l : List α} (h : Own P w a l S) (k : Below w.heap.size w w1) : Own P w1 a l S :=
 h.offp hP (Offp.of_below (S := fun _ => False) k) (fun _ _ e => e)
theorem Own.mono {S T : Nat -> Prop} {w : World} {a : Option Addr} {l : List α} (h : Own P w a l S) (s : ∀ x, S x -> T x) : Own P w a l T :=
 h.imp id fun ⟨b, o, fp, e, hs, hf, hO⟩ => ⟨b, o, fp, e, s b hs, fun i x hx => s x (hf i x hx), hO⟩
theorem Own.at {S : Nat -> Prop} {w : World} {a : Option Addr} {l : List α} (h : Own P w a l S) : At w a l :=
 h.imp id fun ⟨b, o, fp, e, _, _, hO⟩ => ⟨b, o, e, hO.lt, hO.lst⟩
theorem Own.each {S : Nat -> Prop} {w : World} {a : Option Addr} {l : List α} (h : Own P w a l S) {Q : α -> Prop} (hQ : ∀ x S, P w x S -> Q x) : ∀ x ∈ l, Q x := by
 rcases h with rfl | ⟨b, o, fp, e, _, _, hO⟩
 . simp
 . intro x hx
   obtain ⟨i, hi, rfl⟩ := List.getElem_of_mem hx
   exact hQ _ _ (hO.sub i hi)
theorem Qhy {w : World} {b m : Nat} {pre : List α} {x : α} (hin : In w b 0 pre) (hth : w.there b 0 (m * Cel.k α)) (hn : pre.length < m) :
 In (w.setCells b (pre.length * Cel.k α) (Cel.cs x)) b 0 (pre ++ [x]) /\ (w.setCells b (pre.length * Cel.k α) (Cel.cs x)).there b 0 (m * Cel.k α) := by
 have hlen : (flat pre).length = pre.length * Cel.k α := Qb8 _
 refine ⟨?_, World.there_setCells hth _ _ _⟩
 unfold In
 rw [Qco, Qd5]
 refine Qbw (World.rangeAt_setCells_apart hin _ _ _ (.inr (.inl (by rw [hlen]; omega)))) ?_
 rw [hlen, Nat.zero_add]
 refine World.rangeAt_setCells_same _ _ _ _ fun j hj => ?_
 have hj' : j < Cel.k α := by rwa [Cel.len] at hj
 have hlt : pre.length * Cel.k α + j < m * Cel.k α := by have : (pre.length + 1) * Cel.k α <= m * Cel.k α := Nat.mul_le_mul_right _ hn; rw [Nat.add_mul] at this; omega
 have := hth (pre.length * Cel.k α + j) hlt
 rwa [Nat.zero_add] at this
theorem Qcv (w : World) (b : Nat) : ∀ (vs : List Value) (o : Nat), Only b w (w.setCells b o vs) := by
 intro vs
 induction vs generalizing w with
 | nil => intro o; exact Only.refl _ _
 | cons v vs ih =>
  intro o
  have h1 : Only b w (w.setCell ⟨b, o, none⟩ v) := (Only.refl b w).set o v
  have h2 := ih (w.setCell ⟨b, o, none⟩ v) (o + 1)
  exact ⟨h2.os.trans h1.os, h2.tape.trans h1.tape, h2.output.trans h1.output, Nat.le_trans h1.size h2.size, fun i hi hb => (h2.block i (Nat.lt_of_lt_of_le hi h1.size) hb).trans (h1.block i hi hb)⟩
def Grow (P : World -> α -> (Nat -> Prop) -> Prop) (w : World) (b m : Nat) (pre : List α) : Prop :=
  ∃ fp, OwnF P w b 0 pre fp /\ w.there b 0 (m * Cel.k α) /\ ∀ i x, fp i x -> i < pre.length /\ b < x /\ x < w.heap.size
theorem Grow.start {w : World} {b m : Nat} (hb : b < w.heap.size) (hth : w.there b 0 (m * Cel.k α)) : Grow P w b m [] :=
 ⟨fun _ _ => False, ⟨hb, In.nil _ _ _, fun j hj => by simp at hj, fun i h => by simp at h, fun _ _ _ _ h => h.elim, fun _ h => h⟩, hth, fun _ _ h => h.elim⟩
theorem Grow.snoc (hP : Firm P) {w w1 : World} {b m : Nat} {pre : List α} (h : Grow P w b m pre) (hn : pre.length < m) (g : Below w.heap.size w w1) {y : α} {S : Nat -> Prop} (hy : P w1 y S) (hS : ∀ x, S x -> w.heap.size <= x /\ x < w1.heap.size) :
 Grow P (w1.setCells b (pre.length * Cel.k α) (Cel.cs y)) b m (pre ++ [y]) := by
 obtain ⟨fp, hO, hth, hfp⟩ := h
 have hO1 := hO.below hP g
 have ht1 := Qaz hth hO.lt g
 obtain ⟨k1, k2⟩ := Qhy (x := y) hO1.lst ht1 hn
 have ko := Qcv w1 b (Cel.cs y) (pre.length * Cel.k α)
 have kp := Offp.of_only ko
 have hbS : ∀ x, S x -> x ≠ b := fun x hx e => by have := (hS x hx).1; have := hO.lt; omega
 refine ⟨fun i => if i = pre.length then S else fp i, ⟨Nat.lt_of_lt_of_le hO1.lt ko.size, k1, ?_, ?_, ?_, ?_⟩, k2, ?_⟩
 . intro j hj
   refine k2 j (Nat.lt_of_lt_of_le hj (Nat.mul_le_mul_right _ ?_))
   simp; omega
 . intro i hi
   by_cases e : i = pre.length
   . subst e
     simp only [if_true]
     rw [List.getElem_append_right (Nat.le_refl _)]
     simp only [Nat.sub_self, List.getElem_cons_zero]
     exact hP _ _ _ _ _ hy kp (fun x hx => hbS x hx)
   . have hi' : i < pre.length := by simp at hi; omega
     simp only [if_neg e]
     rw [List.getElem_append_left hi']
     exact hP _ _ _ _ _ (hO1.sub i hi') kp (fun x hx e2 => by have := (hfp i x hx).2.1; omega)
 . intro i j hij x hx hx'
   by_cases e1 : i = pre.length
   . by_cases e2 : j = pre.length
     . omega
     . simp only [if_pos e1] at hx
       simp only [if_neg e2] at hx'
       have := (hS x hx).1
       have := (hfp j x hx').2.2
       omega
   . by_cases e2 : j = pre.length
     . simp only [if_neg e1] at hx
       simp only [if_pos e2] at hx'
       have := (hS x hx').1
       have := (hfp i x hx).2.2
       omega
     . simp only [if_neg e1] at hx
       simp only [if_neg e2] at hx'
       exact hO.dis i j hij x hx hx'
 . intro i hx
   by_cases e1 : i = pre.length
   . simp only [if_pos e1] at hx; exact hbS b hx rfl
   . simp only [if_neg e1] at hx; exact hO.nb i hx
 . intro i x hx
   have hs := ko.size
   by_cases e1 : i = pre.length
   . simp only [if_pos e1] at hx
     have := hS x hx
     have := hO.lt
     exact ⟨by simp; omega, by omega, by omega⟩
   . simp only [if_neg e1] at hx
     have := hfp i x hx
     have := g.size
     exact ⟨by simp; omega, by omega, by omega⟩
theorem Grow.own {w : World} {b m : Nat} {pre : List α} (h : Grow P w b m pre) : Own P w (some ⟨b, 0, none⟩) pre (fun x => b <= x /\ x < w.heap.size) := by
 obtain ⟨fp, hO, _, hfp⟩ := h
 exact .inr ⟨b, 0, fp, rfl, ⟨Nat.le_refl _, hO.lt⟩, fun i x hx => by have := hfp i x hx; exact ⟨by omega, this.2.2⟩, hO⟩
theorem Grow.th {w : World} {b m : Nat} {pre : List α} (h : Grow P w b m pre) : w.there b 0 (m * Cel.k α) := by
 obtain ⟨fp, _, h, _⟩ := h; exact h
end
section
variable {α : Type}
def Qat (c : α -> Nat) (l : List α) : Nat := (l.map c).sum
theorem Qbl (c : α -> Nat) (l : List α) (n : Nat) (hn : n < l.length) : Qat c (l.take (n + 1)) = Qat c (l.take n) + c l[n] := by
 unfold Qat; rw [List.take_succ_eq_append_getElem hn, List.map_append, List.sum_append]; simp
theorem Qc2 (c : α -> Nat) (l : List α) : ∀ x ∈ l, c x <= Qat c l := by
 induction l with
 | nil => simp
 | cons a l ih =>
  intro x hx
  rcases List.mem_cons.1 hx with rfl | hx
  . simp [Qat]
  . have := ih x hx; simp only [Qat, List.map_cons, List.sum_cons] at this ⊢; omega
end
open Joins Deep
structure Mk where
  seq : Int
  off : Int
instance : Inhabited Mk := ⟨⟨0, 0⟩⟩
instance : Cel Mk where
  k := 2
  cs x := [.int .i64 x.seq, .int .i64 x.off]
  len _ := rfl
  one x u hu := by simp at hu; rcases hu with rfl | rfl<;>rfl
def Mk.right (x : Mk) : Prop := I64 x.seq /\ I64 x.off
theorem In.getMk {w : World} {b o : Nat} {l : List Mk} (h : In w b o l) (i : Nat) (hi : i < l.length) :
 w.cell? ⟨b, o + i * 2, none⟩ = some (.int .i64 l[i].seq) /\ w.cell? ⟨b, o + i * 2 + 1, none⟩ = some (.int .i64 l[i].off) :=
 ⟨h.cell i hi (f := 0) rfl, h.cell i hi (f := 1) rfl⟩
theorem infoMk : (Tryz.prog.info? 235).map (fun i => (i.zero, i.size, i.bytes)) = some (some (.agg #[.int .i64 0, .int .i64 0]), 2, 16) := by kernel_rfl
theorem cellsMk : Tryz.prog.cellsOf 252 = 2 := by kernel_rfl
theorem Qgl (A : Option Addr) (n cap : Nat) (hn : n <= 9223372036854775807) (left : Int) (h0 : 0 <= left) (h1 : left <= 1048576) (w : World) :
 Calls Tryz.prog 155 #[.slice A n cap, .int .i64 left] w fun e w' => e = .returned (.int .i64 (if left < n then -1 else left - n)) /\ w' = w := by
 by_cases h : left < n
 . have g : left - (n : Int) < 0 := by omega
   rw [if_pos h]
   go_enter Tryz.func155, Tryz.ntmps155
   go_wp2
   go_ret
   exact ⟨rfl, rfl⟩
 . have g : ¬ left - (n : Int) < 0 := by omega
   rw [if_neg h]
   go_enter Tryz.func155, Tryz.ntmps155
   go_wp2
   go_ret
   exact ⟨rfl, rfl⟩
theorem toMk_any (seq off : Int) (w : World) :
 Calls Tryz.prog 177 #[.agg #[.int .i64 seq, .int .i64 off]] w fun e w' => e = .returned (.agg #[.int .i64 seq, .int .i64 off]) /\ Below w.heap.size w w' := by
 go_enter Tryz.func177, Tryz.ntmps177
 go_wp2
 exact bodyPost_ret (v := .agg #[.int .i64 seq, .int .i64 off]) (by simp [results, Tryz.results177, go_sem]) rfl ⟨rfl, by repeat (first | exact Below.refl _ _ | refine via0 (by assumption) ?_ | refine Below.drew ?_ | refine Qab ?_ _)⟩
theorem toMkS_any (A : Option Addr) (cap : Nat) (l : List Mk) (hl : l.length <= 1048576) (w : World) (hA : At w A l) :
 Calls Tryz.prog 157 #[.slice A l.length cap] w fun e w' => e = .returned (.slice (some ⟨w.heap.size, 0, none⟩) l.length l.length) /\ Below w.heap.size w w' /\ w.heap.size < w'.heap.size /\ In w' w.heap.size 0 l /\ w'.there w.heap.size 0 (l.length * 2) := by
 have HA : Hid (At w A l) := hA
 clear hA
 have hmk := Qbg (P := Tryz.prog) Tryz.underlying219 infoMk (by omega) l.length hl
 go_enter Tryz.func157, Tryz.ntmps157
 go_wp2
 go_loopw [4] (fun i w' => ∃ (n : Nat), i = .int .i64 (n : Int) /\ n <= l.length /\ Below w.heap.size w w' /\ w.heap.size < w'.heap.size /\ Hid (In w' w.heap.size 0 (l.take n)) /\ Hid (w'.there w.heap.size 0 (l.length * 2))) (fun i _ => l.length - (intOf i).toNat)
 case atStart => exact ⟨0, rfl, by omega, by repeat (first | exact Below.refl _ _ | refine via0 (by assumption) ?_ | refine Below.drew ?_ | refine Qab ?_ _), by simp, In.nil _ _ _, Qa0 w _ _ _ _⟩
 case round =>
  obtain ⟨n, rfl, hn, hbl, hsz, hin, hth⟩ := hrel
  by_cases hlt : n < l.length
  . obtain ⟨b, o, rfl, hbs, hIn⟩ : ∃ b o, A = some ⟨b, o, none⟩ /\ b < w.heap.size /\ In w b o l := by
     rcases HA.out with h | h
     . subst h; simp at hlt
     . exact h
    obtain ⟨c0, c1⟩ := (hIn.below hbs hbl).getMk n hlt
    obtain ⟨⟨v0, d0⟩, f0⟩ := Qah (f := 0) hth.out hlt (by omega)
    obtain ⟨⟨v1, d1⟩, f1⟩ := Qah (f := 1) hth.out hlt (by omega)
    simp only [Nat.zero_add, Nat.add_zero] at d0 f0 d1 f1
    go_wp2_with (go_at_call 177; refine (toMk_any _ _ _).mono ?_; rintro e w1 ⟨rfl, g1⟩; obtain ⟨k1, m1⟩ := Qax g1; have s1 := g1.size)
    have hst := Qcb (hin.out.below hsz g1) (Qaz hth.out hsz g1) hlt
    refine ⟨⟨n + 1, by go_num, by omega, ?_, by simp; omega, hst.1, hst.2⟩, by simp [intOf]; omega⟩
    exact ((via0 g1 hbl).setCell (Nat.le_refl _) _).setCell (Nat.le_refl _) _
  . have e : l.take n = l := List.take_of_length_le (by omega)
    go_wp2
    go_ret
    exact ⟨rfl, hbl, hsz, by have := hin.out; rwa [e] at this, hth.out⟩
theorem eqMk_same (seq off : Int) (w : World) :
 Calls Tryz.prog 188 #[.agg #[.int .i64 seq, .int .i64 off], .agg #[.int .i64 seq, .int .i64 off]] w fun e w' => e = .returned (.bool true) /\ Below w.heap.size w w' := by
 go_enter Tryz.func188, Tryz.ntmps188
 go_wp2
 go_ret
 exact ⟨rfl, by repeat (first | exact Below.refl _ _ | refine via0 (by assumption) ?_ | refine Below.drew ?_ | refine Qab ?_ _)⟩
theorem eqMkS_same (A A' : Option Addr) (cap cap' : Nat) (l : List Mk) (hl : l.length <= 9223372036854775807) (w : World) (hA : At w A l) (hA' : At w A' l) :
 Calls Tryz.prog 174 #[.slice A l.length cap, .slice A' l.length cap'] w fun e w' => e = .returned (.bool true) /\ Below w.heap.size w w' := by
 have HA : Hid (At w A l) := hA
 have HA' : Hid (At w A' l) := hA'
 clear hA hA'
 go_enter Tryz.func174, Tryz.ntmps174
 go_wp2
 go_loopw [5] (fun i w' => ∃ (n : Nat), i = .int .i64 (n : Int) /\ n <= l.length /\ Below w.heap.size w w') (fun i _ => l.length - (intOf i).toNat)
 case atStart => exact ⟨0, rfl, by omega, Below.refl _ _⟩
 case round =>
  obtain ⟨n, rfl, hn, hbl⟩ := hrel
  by_cases hlt : n < l.length
  . obtain ⟨b, o, rfl, hbs, hin⟩ : ∃ b o, A = some ⟨b, o, none⟩ /\ b < w.heap.size /\ In w b o l := by
     rcases HA.out with h | h
     . subst h; simp at hlt
     . exact h
    obtain ⟨b', o', rfl, hbs', hin'⟩ : ∃ b o, A' = some ⟨b, o, none⟩ /\ b < w.heap.size /\ In w b o l := by
     rcases HA'.out with h | h
     . subst h; simp at hlt
     . exact h
    obtain ⟨c0, c1⟩ := (hin.below hbs hbl).getMk n hlt
    obtain ⟨d0, d1⟩ := (hin'.below hbs' hbl).getMk n hlt
    have hb1 : b < wr.heap.size := Nat.lt_of_lt_of_le hbs hbl.size
    have hb2 : b' < wr.heap.size := Nat.lt_of_lt_of_le hbs' hbl.size
    have hi0 : (0 : Int) <= (n : Int) := by omega
    have hi1 : (n : Int) < (l.length : Int) := by omega
    go_wp2
    go_region_held3 (fun w' => w'.cell? ⟨b, o + n * 2, none⟩ = some (.int .i64 l[n].seq) /\ w'.cell? ⟨b, o + n * 2 + 1, none⟩ = some (.int .i64 l[n].off) /\ w'.cell? ⟨b', o' + n * 2, none⟩ = some (.int .i64 l[n].seq) /\ w'.cell? ⟨b', o' + n * 2 + 1, none⟩ = some (.int .i64 l[n].off) /\ wr.heap.size <= w'.heap.size)
     (first | (go_split_ands; refine ⟨?_, ?_, ?_, ?_, ?_⟩<;>first | assumption | exact (k1 _ _ hb1).trans (by assumption) | exact (k1 _ _ hb2).trans (by assumption) | exact s1 | (simp; done)) | go_keep)
     (first
      | (go_at_call 188; refine (eqMk_same _ _ _).mono ?_; rintro e w1 ⟨rfl, g1⟩; obtain ⟨k1, m1⟩ := Qax g1; have s1 := g1.size))
    all_goals
     go_wp2
     exact ⟨⟨n + 1, by go_num, by omega, via0 g1 hbl.drew⟩, by simp [intOf]; omega⟩
  . go_wp2
    go_ret
    exact ⟨rfl, hbl⟩
theorem openMk {H : Type} {enc : TypeId × Value -> H} {w : World} {base n : Nat} {spare : Nat -> Bool} {held : Bool} {a : Addr} {cs : List Value} {y : DataW H × List MemPlace}
 (h1 : w.cells? base a 2 = some cs) (h2 : DataW.trod enc Tryz.prog w base spare held n 252 cs = some y) :
 ∃ x : Mk, x.right /\ a.spot = none /\ a.block < w.heap.size /\ ∀ j v, (Cel.cs x)[j]? = some v -> w.cell? ⟨a.block, a.off + j, none⟩ = some v := by
 obtain ⟨_, hlen, hc⟩ := World.cells?_some h1
 match cs, hlen with
 | [c0, c1], _ =>
  obtain ⟨m, hf⟩ := Qbi Tryz.underlying252 (by kernel_rfl) h2
  obtain ⟨y0, g0⟩ := hf 0 _ rfl _ rfl
  obtain ⟨y1, g1⟩ := hf 1 _ rfl _ rfl
  obtain ⟨seq, e0, _, w0⟩ := DataW.trod_int Tryz.underlying3 g0
  obtain ⟨off, e1, _, w1⟩ := DataW.trod_int Tryz.underlying3 g1
  simp at e0 e1
  subst e0 e1
  have q0 := hc 0 (by omega)
  have hsp : a.spot = none := by
   cases hs : a.spot with
   | none => rfl
   | some s => exfalso; simp [Addr.add, World.cell?, hs] at q0; split at q0<;>simp at q0
  have hlt : a.block < w.heap.size := by
   rw [show a.add 0 = a from rfl] at q0
   unfold World.cell? at q0
   cases hh : w.heap[a.block]? with
   | none => simp [hh] at q0
   | some ob => exact (Array.getElem?_eq_some_iff.1 hh).1
  refine ⟨⟨seq, off⟩, ⟨Qa8 w0, Qa8 w1⟩, hsp, hlt, ?_⟩
  intro j v hv
  have hj : j < 2 := (List.getElem?_eq_some_iff.1 hv).1
  have q := hc j hj
  have e : a.add j = ⟨a.block, a.off + j, none⟩ := by
   obtain ⟨b, o, s⟩ := a
   simp only at hsp
   subst hsp
   exact Addr.add_mid b o j
  rw [e] at q
  rw [q]
  exact hv
end Go.Proofs.YtkmkldjipihceaaGreat.Gen
