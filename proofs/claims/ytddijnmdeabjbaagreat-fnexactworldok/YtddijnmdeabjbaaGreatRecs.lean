/-
  Lists of records that have lists of their own: how they lie, each in blocks of its own, what stays when other blocks turn, and what one record's turning does. No condition.
-/
import Derived.Test.YtddijnmdeabjbaaGreatBase
import Derived.WalkSpells
import Derived.Lib.ItoaNum
set_option linter.unusedVariables false
set_option linter.unusedSimpArgs false
set_option maxRecDepth 100000
set_option maxHeartbeats 8000000
namespace Go.Proofs.YtddijnmdeabjbaaGreat.Gen
open ChangeShapes WideShapes ChangeAt RowKit Base
structure Offp (S : Nat -> Prop) (w w' : World) : Prop where
  os : w'.os = w.os
  tape : w'.tape = w.tape
  output : w'.output = w.output
  size : w.heap.size <= w'.heap.size
  block : ∀ k, k < w.heap.size -> ¬ S k -> w'.heap[k]? = w.heap[k]?
theorem Offp.refl (S : Nat -> Prop) (w : World) : Offp S w w := ⟨rfl, rfl, rfl, Nat.le_refl _, fun _ _ _ => rfl⟩
theorem Offp.trans {S : Nat -> Prop} {w w1 w2 : World} (h : Offp S w w1) (k : Offp S w1 w2) : Offp S w w2 :=
 ⟨k.os.trans h.os, k.tape.trans h.tape, k.output.trans h.output, Nat.le_trans h.size k.size, fun i hi hb => (k.block i (Nat.lt_of_lt_of_le hi h.size) hb).trans (h.block i hi hb)⟩
theorem Offp.mono {S T : Nat -> Prop} {w w1 : World} (h : Offp S w w1) (s : ∀ x, S x -> T x) : Offp T w w1 := ⟨h.os, h.tape, h.output, h.size, fun i hi hb => h.block i hi (fun e => hb (s i e))⟩
theorem Offp.of_below {S : Nat -> Prop} {w w1 : World} (h : Below w.heap.size w w1) : Offp S w w1 := ⟨h.os, h.tape, h.output, h.size, fun i hi _ => h.block i hi⟩
theorem Offp.of_only {b : Nat} {w w1 : World} (h : Only b w w1) : Offp (fun x => x = b) w w1 := ⟨h.os, h.tape, h.output, h.size, fun i hi hb => h.block i hi hb⟩
theorem Offp.set {S : Nat -> Prop} {w w1 : World} (h : Offp S w w1) {b : Nat} (hb : S b) (o : Nat) (v : Value) : Offp S w (w1.setCell ⟨b, o, none⟩ v) :=
 h.trans ((Offp.of_only ((Only.refl b w1).set o v)).mono (fun x e => e ▸ hb))
theorem Offp.toBelow {S : Nat -> Prop} {B : Nat} {w w1 : World} (h : Offp S w w1) (hF : ∀ x, S x -> B <= x) (hw : B <= w.heap.size) : Below B w w1 :=
 ⟨h.os, h.tape, h.output, h.size, fun i hi => h.block i (by omega) (fun e => by have := hF i e; omega)⟩
theorem Offp.cell {S : Nat -> Prop} {w w1 : World} (h : Offp S w w1) {p : Addr} (hp : p.block < w.heap.size) (hb : ¬ S p.block) : w1.cell? p = w.cell? p := World.cell?_of_block (h.block p.block hp hb)
theorem Offp.frozen {S : Nat -> Prop} {w w1 : World} (h : Offp S w w1) {p : Addr} (hp : p.block < w.heap.size) (hb : ¬ S p.block) : w1.frozen? p = w.frozen? p := by
 unfold World.frozen?; rw [h.block p.block hp hb]
theorem Blk.offp {S : Nat -> Prop} {W W' : World} {B : Nat} {t : TypeId} {vs : Array Value} (h : Blk W B t vs) (k : Offp S W W') (hne : ¬ S B) : Blk W' B t vs := (k.block B h.lt hne).trans h
theorem Qcc {S : Nat -> Prop} {c o n : Nat} {w w1 : World} (h : w.there c o n) (k : Offp S w w1) (hc : c < w.heap.size) (hb : ¬ S c) : w1.there c o n := fun j hj => by
 rw [k.cell (p := ⟨c, o + j, none⟩) hc hb, k.frozen (p := ⟨c, o + j, none⟩) hc hb]; exact h j hj
section
variable {α : Type} [Cel α]
theorem In.offp {S : Nat -> Prop} {c o : Nat} {w w1 : World} {l : List α} (h : In w c o l) (k : Offp S w w1) (hc : c < w.heap.size) (hb : ¬ S c) : In w1 c o l :=
 fun j v hv => (k.cell (p := ⟨c, o + j, none⟩) hc hb).trans (h j v hv)
def Sub (w : World) (a : Option Addr) (l : List α) (S : Nat -> Prop) : Prop :=
  l = [] ∨ ∃ b o, a = some ⟨b, o, none⟩ /\ S b /\ b < w.heap.size /\ In w b o l /\ w.there b o (l.length * Cel.k α)
theorem Sub.offp {S T : Nat -> Prop} {w w1 : World} {a : Option Addr} {l : List α} (h : Sub w a l S) (k : Offp T w w1) (hd : ∀ x, S x -> ¬ T x) : Sub w1 a l S :=
 h.imp id fun ⟨b, o, e, hs, hb, hi, ht⟩ => ⟨b, o, e, hs, Nat.lt_of_lt_of_le hb k.size, hi.offp k hb (hd b hs), Qcc ht k hb (hd b hs)⟩
theorem Sub.mono {S T : Nat -> Prop} {w : World} {a : Option Addr} {l : List α} (h : Sub w a l S) (s : ∀ x, S x -> T x) : Sub w a l T :=
 h.imp id fun ⟨b, o, e, hs, r⟩ => ⟨b, o, e, s b hs, r⟩
theorem Sub.at {S : Nat -> Prop} {w : World} {a : Option Addr} {l : List α} (h : Sub w a l S) : At w a l :=
 h.imp id fun ⟨b, o, e, _, hb, hi, _⟩ => ⟨b, o, e, hb, hi⟩
theorem Sub.below {S : Nat -> Prop} {w w1 : World} {a : Option Addr} {l : List α} (h : Sub w a l S) (k : Below w.heap.size w w1) : Sub w1 a l S :=
 h.offp (Offp.of_below (S := fun _ => False) k) (fun _ _ e => e)
variable {P : World -> α -> (Nat -> Prop) -> Prop}
def Firm (P : World -> α -> (Nat -> Prop) -> Prop) : Prop := ∀ (w w' : World) (x : α) (S T : Nat -> Prop), P w x S -> Offp T w w' -> (∀ y, S y -> ¬ T y) -> P w' x S
structure OwnF (P : World -> α -> (Nat -> Prop) -> Prop) (w : World) (b o : Nat) (l : List α) (fp : Nat -> Nat -> Prop) : Prop where
  lt : b < w.heap.size
  lst : In w b o l
  th : w.there b o (l.length * Cel.k α)
  sub : ∀ (i : Nat) (h : i < l.length), P w l[i] (fp i)
  dis : ∀ i j, i ≠ j -> ∀ x, fp i x -> ¬ fp j x
  nb : ∀ i, ¬ fp i b
theorem OwnF.offp (hP : Firm P) {w w' : World} {b o : Nat} {l : List α} {fp : Nat -> Nat -> Prop} {T : Nat -> Prop} (h : OwnF P w b o l fp) (k : Offp T w w') (hb : ¬ T b) (hd : ∀ i x, fp i x -> ¬ T x) : OwnF P w' b o l fp :=
 ⟨Nat.lt_of_lt_of_le h.lt k.size, h.lst.offp k h.lt hb, Qcc h.th k h.lt hb, fun i hi => hP _ _ _ _ _ (h.sub i hi) k (hd i), h.dis, h.nb⟩
theorem OwnF.below (hP : Firm P) {w w' : World} {b o : Nat} {l : List α} {fp : Nat -> Nat -> Prop} (h : OwnF P w b o l fp) (k : Below w.heap.size w w') : OwnF P w' b o l fp :=
 h.offp hP (Offp.of_below (S := fun _ => False) k) (fun e => e) (fun _ _ _ e => e)
def Own (P : World -> α -> (Nat -> Prop) -> Prop) (w : World) (a : Option Addr) (l : List α) (S : Nat -> Prop) : Prop :=
  l = [] ∨ ∃ b o fp, a = some ⟨b, o, none⟩ /\ S b /\ (∀ i x, fp i x -> S x) /\ OwnF P w b o l fp
theorem Own.offp (hP : Firm P) {S T : Nat -> Prop} {w w1 : World} {a : Option Addr} {l : List α} (h : Own P w a l S) (k : Offp T w w1) (hd : ∀ x, S x -> ¬ T x) : Own P w1 a l S :=
 h.imp id fun ⟨b, o, fp, e, hs, hf, hO⟩ => ⟨b, o, fp, e, hs, hf, hO.offp hP k (hd b hs) (fun i x hx => hd x (hf i x hx))⟩
theorem Own.below (hP : Firm P) {S : Nat -> Prop} {w w1 : World} {a : Option Addr} {l : List α} (h : Own P w a l S) (k : Below w.heap.size w w1) : Own P w1 a l S :=
 h.offp hP (Offp.of_below (S := fun _ => False) k) (fun _ _ e => e)
theorem Own.mono {S T : Nat -> Prop} {w : World} {a : Option Addr} {l : List α} (h : Own P w a l S) (s : ∀ x, S x -> T x) : Own P w a l T :=
 h.imp id fun ⟨b, o, fp, e, hs, hf, hO⟩ => ⟨b, o, fp, e, s b hs, fun i x hx => s x (hf i x hx), hO⟩
theorem Own.at {S : Nat -> Prop} {w : World} {a : Option Addr} {l : List α} (h : Own P w a l S) : At w a l :=
 h.imp id fun ⟨b, o, fp, e, _, _, hO⟩ => ⟨b, o, e, hO.lt, hO.lst⟩
theorem Own.each {S : Nat -> Prop} {w : World} {a : Option Addr} {l : List α} (h : Own P w a l S) {Q : α -> Prop} (hQ : ∀ x S, P w x S -> Q x) : ∀ x ∈ l, Q x := by
 rcases h with rfl | ⟨b, o, fp, e, _, _, hO⟩
 . simp
 . intro x hx
   obtain ⟨i, hi, rfl⟩ := List.getElem_of_mem hx
   exact hQ _ _ (hO.sub i hi)
theorem Qg8 {w : World} {b m : Nat} {pre : List α} {x : α} (hin : In w b 0 pre) (hth : w.there b 0 (m * Cel.k α)) (hn : pre.length < m) :
 In (w.setCells b (pre.length * Cel.k α) (Cel.cs x)) b 0 (pre ++ [x]) /\ (w.setCells b (pre.length * Cel.k α) (Cel.cs x)).there b 0 (m * Cel.k α) := by
 have hlen : (flat pre).length = pre.length * Cel.k α := Qbo _
 refine ⟨?_, World.there_setCells hth _ _ _⟩
 unfold In
 rw [Qbz, Qdf]
 refine Qbd (World.rangeAt_setCells_apart hin _ _ _ (.inr (.inl (by rw [hlen]; omega)))) ?_
 rw [hlen, Nat.zero_add]
 refine World.rangeAt_setCells_same _ _ _ _ fun j hj => ?_
 have hj' : j < Cel.k α := by rwa [Cel.len] at hj
 have hlt : pre.length * Cel.k α + j < m * Cel.k α := by have : (pre.length + 1) * Cel.k α <= m * Cel.k α := Nat.mul_le_mul_right _ hn; rw [Nat.add_mul] at this; omega
 have := hth (pre.length * Cel.k α + j) hlt
 rwa [Nat.zero_add] at this
theorem Qb2 (w : World) (b : Nat) : ∀ (vs : List Value) (o : Nat), Only b w (w.setCells b o vs) := by
 intro vs
 induction vs generalizing w with
 | nil => intro o; exact Only.refl _ _
 | cons v vs ih =>
  intro o
  have h1 : Only b w (w.setCell ⟨b, o, none⟩ v) := (Only.refl b w).set o v
  have h2 := ih (w.setCell ⟨b, o, none⟩ v) (o + 1)
  exact ⟨h2.os.trans h1.os, h2.tape.trans h1.tape, h2.output.trans h1.output, Nat.le_trans h1.size h2.size, fun i hi hb => (h2.block i (Nat.lt_of_lt_of_le hi h1.size) hb).trans (h1.block i hi hb)⟩
def Grow (P : World -> α -> (Nat -> Prop) -> Prop) (w : World) (b m : Nat) (pre : List α) : Prop :=
  ∃ fp, OwnF P w b 0 pre fp /\ w.there b 0 (m * Cel.k α) /\ ∀ i x, fp i x -> i < pre.length /\ b < x /\ x < w.heap.size
theorem Grow.start {w : World} {b m : Nat} (hb : b < w.heap.size) (hth : w.there b 0 (m * Cel.k α)) : Grow P w b m [] :=
 ⟨fun _ _ => False, ⟨hb, In.nil _ _ _, fun j hj => by simp at hj, fun i h => by simp at h, fun _ _ _ _ h => h.elim, fun _ h => h⟩, hth, fun _ _ h => h.elim⟩
theorem Grow.snoc (hP : Firm P) {w w1 : World} {b m : Nat} {pre : List α} (h : Grow P w b m pre) (hn : pre.length < m) (g : Below w.heap.size w w1) {y : α} {S : Nat -> Prop} (hy : P w1 y S) (hS : ∀ x, S x -> w.heap.size <= x /\ x < w1.heap.size) :
 Grow P (w1.setCells b (pre.length * Cel.k α) (Cel.cs y)) b m (pre ++ [y]) := by
 obtain ⟨fp, hO, hth, hfp⟩ := h
 have hO1 := hO.below hP g
 have ht1 := Qaj hth hO.lt g
 obtain ⟨k1, k2⟩ := Qg8 (x := y) hO1.lst ht1 hn
 have ko := Qb2 w1 b (Cel.cs y) (pre.length * Cel.k α)
 have kp := Offp.of_only ko
 have hbS : ∀ x, S x -> x ≠ b := fun x hx e => by have := (hS x hx).1; have := hO.lt; omega
 refine ⟨fun i => if i = pre.length then S else fp i, ⟨Nat.lt_of_lt_of_le hO1.lt ko.size, k1, ?_, ?_, ?_, ?_⟩, k2, ?_⟩
 . intro j hj
   refine k2 j (Nat.lt_of_lt_of_le hj (Nat.mul_le_mul_right _ ?_))
   simp; omega
 . intro i hi
   by_cases e : i = pre.length
   . subst e
     simp only [if_true]
     rw [List.getElem_append_right (Nat.le_refl _)]
     simp only [Nat.sub_self, List.getElem_cons_zero]
     exact hP _ _ _ _ _ hy kp (fun x hx => hbS x hx)
   . have hi' : i < pre.length := by simp at hi; omega
     simp only [if_neg e]
     rw [List.getElem_append_left hi']
     exact hP _ _ _ _ _ (hO1.sub i hi') kp (fun x hx e2 => by have := (hfp i x hx).2.1; omega)
 . intro i j hij x hx hx'
   by_cases e1 : i = pre.length
   . by_cases e2 : j = pre.length
     . omega
     . simp only [if_pos e1] at hx
       simp only [if_neg e2] at hx'
       have := (hS x hx).1
       have := (hfp j x hx').2.2
       omega
   . by_cases e2 : j = pre.length
     . simp only [if_neg e1] at hx
       simp only [if_pos e2] at hx'
       have := (hS x hx').1
       have := (hfp i x hx).2.2
       omega
     . simp only [if_neg e1] at hx
       simp only [if_neg e2] at hx'
       exact hO.dis i j hij x hx hx'
 . intro i hx
   by_cases e1 : i = pre.length
   . simp only [if_pos e1] at hx; exact hbS b hx rfl
   . simp only [if_neg e1] at hx; exact hO.nb i hx
 . intro i x hx
   have hs := ko.size
   by_cases e1 : i = pre.length
   . simp only [if_pos e1] at hx
     have := hS x hx
     have := hO.lt
     exact ⟨by simp; omega, by omega, by omega⟩
   . simp only [if_neg e1] at hx
     have := hfp i x hx
     have := g.size
     exact ⟨by simp; omega, by omega, by omega⟩
theorem Grow.own {w : World} {b m : Nat} {pre : List α} (h : Grow P w b m pre) : Own P w (some ⟨b, 0, none⟩) pre (fun x => b <= x /\ x < w.heap.size) := by
 obtain ⟨fp, hO, _, hfp⟩ := h
 exact .inr ⟨b, 0, fp, rfl, ⟨Nat.le_refl _, hO.lt⟩, fun i x hx => by have := hfp i x hx; exact ⟨by omega, this.2.2⟩, hO⟩
theorem Grow.th {w : World} {b m : Nat} {pre : List α} (h : Grow P w b m pre) : w.there b 0 (m * Cel.k α) := by
 obtain ⟨fp, _, h, _⟩ := h; exact h
end
section
variable {α : Type}
def Qag (c : α -> Nat) (l : List α) : Nat := (l.map c).sum
theorem Qa2 (c : α -> Nat) (l : List α) (n : Nat) (hn : n < l.length) : Qag c (l.take (n + 1)) = Qag c (l.take n) + c l[n] := by
 unfold Qag; rw [List.take_succ_eq_append_getElem hn, List.map_append, List.sum_append]; simp
theorem Qca (c : α -> Nat) (l : List α) : ∀ x ∈ l, c x <= Qag c l := by
 induction l with
 | nil => simp
 | cons a l ih =>
  intro x hx
  rcases List.mem_cons.1 hx with rfl | hx
  . simp [Qag]
  . have := ih x hx; simp only [Qag, List.map_cons, List.sum_cons] at this ⊢; omega
end
end Go.Proofs.YtddijnmdeabjbaaGreat.Gen
namespace Go.Proofs.YtddijnmdeabjbaaGreat.Gen
open ChangeShapes WideShapes ChangeAt RowKit Joins Deep Base
structure Mk where
  seq : Int
  off : Int
instance : Inhabited Mk := ⟨⟨0, 0⟩⟩
instance : Cel Mk where
  k := 2
  cs x := [.int .i64 x.seq, .int .i64 x.off]
  len _ := rfl
  one x u hu := by simp at hu; rcases hu with rfl | rfl<;>rfl
def Mk.right (x : Mk) : Prop := I64 x.seq /\ I64 x.off
theorem In.getMk {w : World} {b o : Nat} {l : List Mk} (h : In w b o l) (i : Nat) (hi : i < l.length) :
 w.cell? ⟨b, o + i * 2, none⟩ = some (.int .i64 l[i].seq) /\ w.cell? ⟨b, o + i * 2 + 1, none⟩ = some (.int .i64 l[i].off) :=
 ⟨h.cell i hi (f := 0) rfl, h.cell i hi (f := 1) rfl⟩
theorem infoMk : (Tryz.prog.info? 225).map (fun i => (i.zero, i.size, i.bytes)) = some (some (.agg #[.int .i64 0, .int .i64 0]), 2, 16) := by kernel_rfl
theorem cellsMk : Tryz.prog.cellsOf 257 = 2 := by kernel_rfl
theorem Qfu (A : Option Addr) (n cap : Nat) (hn : n <= 9223372036854775807) (left : Int) (h0 : 0 <= left) (h1 : left <= 1048576) (w : World) :
 Calls Tryz.prog 164 #[.slice A n cap, .int .i64 left] w fun e w' => e = .returned (.int .i64 (if left < n then -1 else left - n)) /\ w' = w := by
 by_cases h : left < n
 . have g : left - (n : Int) < 0 := by omega
   rw [if_pos h]
   go_enter Tryz.func164, Tryz.ntmps164
   go_wp2
   go_ret
   exact ⟨rfl, rfl⟩
 . have g : ¬ left - (n : Int) < 0 := by omega
   rw [if_neg h]
   go_enter Tryz.func164, Tryz.ntmps164
   go_wp2
   go_ret
   exact ⟨rfl, rfl⟩
theorem toMk_any (seq off : Int) (w : World) :
 Calls Tryz.prog 180 #[.agg #[.int .i64 seq, .int .i64 off]] w fun e w' => e = .returned (.agg #[.int .i64 seq, .int .i64 off]) /\ Below w.heap.size w w' := by
 go_enter Tryz.func180, Tryz.ntmps180
 go_wp2
 exact bodyPost_ret (v := .agg #[.int .i64 seq, .int .i64 off]) (by simp [results, Tryz.results180, go_sem]) rfl ⟨rfl, by repeat (first | exact Below.refl _ _ | refine via0 (by assumption) ?_ | refine Below.drew ?_ | refine Qaa ?_ _)⟩
theorem toMkS_any (A : Option Addr) (cap : Nat) (l : List Mk) (hl : l.length <= 1048576) (w : World) (hA : At w A l) :
 Calls Tryz.prog 166 #[.slice A l.length cap] w fun e w' => e = .returned (.slice (some ⟨w.heap.size, 0, none⟩) l.length l.length) /\ Below w.heap.size w w' /\ w.heap.size < w'.heap.size /\ In w' w.heap.size 0 l /\ w'.there w.heap.size 0 (l.length * 2) := by
 have HA : Hid (At w A l) := hA
 clear hA
 have hmk := Qaw (P := Tryz.prog) Tryz.underlying192 infoMk (by omega) l.length hl
 go_enter Tryz.func166, Tryz.ntmps166
 go_wp2
 go_loopw [4] (fun i w' => ∃ (n : Nat), i = .int .i64 (n : Int) /\ n <= l.length /\ Below w.heap.size w w' /\ w.heap.size < w'.heap.size /\ Hid (In w' w.heap.size 0 (l.take n)) /\ Hid (w'.there w.heap.size 0 (l.length * 2))) (fun i _ => l.length - (intOf i).toNat)
 case atStart => exact ⟨0, rfl, by omega, by repeat (first | exact Below.refl _ _ | refine via0 (by assumption) ?_ | refine Below.drew ?_ | refine Qaa ?_ _), by simp, In.nil _ _ _, Qak w _ _ _ _⟩
 case round =>
  obtain ⟨n, rfl, hn, hbl, hsz, hin, hth⟩ := hrel
  by_cases hlt : n < l.length
  . obtain ⟨b, o, rfl, hbs, hIn⟩ : ∃ b o, A = some ⟨b, o, none⟩ /\ b < w.heap.size /\ In w b o l := by
     rcases HA.out with h | h
     . subst h; simp at hlt
     . exact h
    obtain ⟨c0, c1⟩ := (hIn.below hbs hbl).getMk n hlt
    obtain ⟨⟨v0, d0⟩, f0⟩ := Qab (f := 0) hth.out hlt (by omega)
    obtain ⟨⟨v1, d1⟩, f1⟩ := Qab (f := 1) hth.out hlt (by omega)
    simp only [Nat.zero_add, Nat.add_zero] at d0 f0 d1 f1
    go_wp2_with (go_at_call 180; refine (toMk_any _ _ _).mono ?_; rintro e w1 ⟨rfl, g1⟩; obtain ⟨k1, m1⟩ := Qaf g1; have s1 := g1.size)
    have hst := Qbr (hin.out.below hsz g1) (Qaj hth.out hsz g1) hlt
    refine ⟨⟨n + 1, by go_num, by omega, ?_, by simp; omega, hst.1, hst.2⟩, by simp [intOf]; omega⟩
    exact ((via0 g1 hbl).setCell (Nat.le_refl _) _).setCell (Nat.le_refl _) _
  . have e : l.take n = l := List.take_of_length_le (by omega)
    go_wp2
    go_ret
    exact ⟨rfl, hbl, hsz, by have := hin.out; rwa [e] at this, hth.out⟩
theorem eqMk_same (seq off : Int) (w : World) :
 Calls Tryz.prog 183 #[.agg #[.int .i64 seq, .int .i64 off], .agg #[.int .i64 seq, .int .i64 off]] w fun e w' => e = .returned (.bool true) /\ Below w.heap.size w w' := by
 go_enter Tryz.func183, Tryz.ntmps183
 go_wp2
 go_ret
 exact ⟨rfl, by repeat (first | exact Below.refl _ _ | refine via0 (by assumption) ?_ | refine Below.drew ?_ | refine Qaa ?_ _)⟩
theorem eqMkS_same (A A' : Option Addr) (cap cap' : Nat) (l : List Mk) (hl : l.length <= 9223372036854775807) (w : World) (hA : At w A l) (hA' : At w A' l) :
 Calls Tryz.prog 177 #[.slice A l.length cap, .slice A' l.length cap'] w fun e w' => e = .returned (.bool true) /\ Below w.heap.size w w' := by
 have HA : Hid (At w A l) := hA
 have HA' : Hid (At w A' l) := hA'
 clear hA hA'
 go_enter Tryz.func177, Tryz.ntmps177
 go_wp2
 go_loopw [5] (fun i w' => ∃ (n : Nat), i = .int .i64 (n : Int) /\ n <= l.length /\ Below w.heap.size w w') (fun i _ => l.length - (intOf i).toNat)
 case atStart => exact ⟨0, rfl, by omega, Below.refl _ _⟩
 case round =>
  obtain ⟨n, rfl, hn, hbl⟩ := hrel
  by_cases hlt : n < l.length
  . obtain ⟨b, o, rfl, hbs, hin⟩ : ∃ b o, A = some ⟨b, o, none⟩ /\ b < w.heap.size /\ In w b o l := by
     rcases HA.out with h | h
     . subst h; simp at hlt
     . exact h
    obtain ⟨b', o', rfl, hbs', hin'⟩ : ∃ b o, A' = some ⟨b, o, none⟩ /\ b < w.heap.size /\ In w b o l := by
     rcases HA'.out with h | h
     . subst h; simp at hlt
     . exact h
    obtain ⟨c0, c1⟩ := (hin.below hbs hbl).getMk n hlt
    obtain ⟨d0, d1⟩ := (hin'.below hbs' hbl).getMk n hlt
    have hb1 : b < wr.heap.size := Nat.lt_of_lt_of_le hbs hbl.size
    have hb2 : b' < wr.heap.size := Nat.lt_of_lt_of_le hbs' hbl.size
    have hi0 : (0 : Int) <= (n : Int) := by omega
    have hi1 : (n : Int) < (l.length : Int) := by omega
    go_wp2
    go_region_held3 (fun w' => w'.cell? ⟨b, o + n * 2, none⟩ = some (.int .i64 l[n].seq) /\ w'.cell? ⟨b, o + n * 2 + 1, none⟩ = some (.int .i64 l[n].off) /\ w'.cell? ⟨b', o' + n * 2, none⟩ = some (.int .i64 l[n].seq) /\ w'.cell? ⟨b', o' + n * 2 + 1, none⟩ = some (.int .i64 l[n].off) /\ wr.heap.size <= w'.heap.size)
     (first | (go_split_ands; refine ⟨?_, ?_, ?_, ?_, ?_⟩<;>first | assumption | exact (k1 _ _ hb1).trans (by assumption) | exact (k1 _ _ hb2).trans (by assumption) | exact s1 | (simp; done)) | go_keep)
     (first
      | (go_at_call 183; refine (eqMk_same _ _ _).mono ?_; rintro e w1 ⟨rfl, g1⟩; obtain ⟨k1, m1⟩ := Qaf g1; have s1 := g1.size))
    all_goals
     go_wp2
     exact ⟨⟨n + 1, by go_num, by omega, via0 g1 hbl.drew⟩, by simp [intOf]; omega⟩
  . go_wp2
    go_ret
    exact ⟨rfl, hbl⟩
theorem openMk {H : Type} {enc : TypeId × Value -> H} {w : World} {base n : Nat} {spare : Nat -> Bool} {held : Bool} {a : Addr} {cs : List Value} {y : DataW H × List MemPlace}
 (h1 : w.cells? base a 2 = some cs) (h2 : DataW.trod enc Tryz.prog w base spare held n 257 cs = some y) :
 ∃ x : Mk, x.right /\ a.spot = none /\ a.block < w.heap.size /\ ∀ j v, (Cel.cs x)[j]? = some v -> w.cell? ⟨a.block, a.off + j, none⟩ = some v := by
 obtain ⟨_, hlen, hc⟩ := World.cells?_some h1
 match cs, hlen with
 | [c0, c1], _ =>
  obtain ⟨m, hf⟩ := Qaz Tryz.underlying257 (by kernel_rfl) h2
  obtain ⟨y0, g0⟩ := hf 0 _ rfl _ rfl
  obtain ⟨y1, g1⟩ := hf 1 _ rfl _ rfl
  obtain ⟨seq, e0, _, w0⟩ := DataW.trod_int Tryz.underlying3 g0
  obtain ⟨off, e1, _, w1⟩ := DataW.trod_int Tryz.underlying3 g1
  simp at e0 e1
  subst e0 e1
  have q0 := hc 0 (by omega)
  have hsp : a.spot = none := by
   cases hs : a.spot with
   | none => rfl
   | some s => exfalso; simp [Addr.add, World.cell?, hs] at q0; split at q0<;>simp at q0
  have hlt : a.block < w.heap.size := by
   rw [show a.add 0 = a from rfl] at q0
   unfold World.cell? at q0
   cases hh : w.heap[a.block]? with
   | none => simp [hh] at q0
   | some ob => exact (Array.getElem?_eq_some_iff.1 hh).1
  refine ⟨⟨seq, off⟩, ⟨Qao w0, Qao w1⟩, hsp, hlt, ?_⟩
  intro j v hv
  have hj : j < 2 := (List.getElem?_eq_some_iff.1 hv).1
  have q := hc j hj
  have e : a.add j = ⟨a.block, a.off + j, none⟩ := by
   obtain ⟨b, o, s⟩ := a
   simp only at hsp
   subst hsp
   exact Addr.add_mid b o j
  rw [e] at q
  rw [q]
  exact hv
end Go.Proofs.YtddijnmdeabjbaaGreat.Gen
namespace Go.Proofs.YtddijnmdeabjbaaGreat.Gen
open ChangeShapes WideShapes ChangeAt RowKit Joins Deep Base
theorem Qdl (row who epoch last : Int) (A : Option Addr) (n cap : Nat) (hn : n <= 9223372036854775807) (left : Int) (h0 : 0 <= left) (h1 : left <= 1048576) (w : World) :
 Calls Tryz.prog 139 #[.agg #[.int .i64 row, .int .i64 who, .int .i64 epoch, .int .i64 last, .slice A n cap], .int .i64 left] w fun e w' => e = .returned (.int .i64 (if left < n then -1 else left - n)) /\ Below w.heap.size w w' := by
 by_cases h : left < n
 . go_enter Tryz.func139, Tryz.ntmps139
   go_wp2_with (go_at_call 164; refine (Qfu A n cap hn left h0 h1 _).mono ?_; rw [if_pos h]; rintro e w1 ⟨rfl, rfl⟩)
   go_ret
   refine ⟨rfl, ?_⟩
   repeat (first | exact Below.refl _ _ | assumption | refine via0 (by assumption) ?_ | refine Below.drew ?_ | refine Qaa ?_ _)
 . have hp : ¬ left - (n : Int) < 0 := by omega
   go_enter Tryz.func139, Tryz.ntmps139
   go_wp2_with (go_at_call 164; refine (Qfu A n cap hn left h0 h1 _).mono ?_; rw [if_neg h]; rintro e w1 ⟨rfl, rfl⟩)
   go_ret
   refine ⟨rfl, ?_⟩
   repeat (first | exact Below.refl _ _ | assumption | refine via0 (by assumption) ?_ | refine Below.drew ?_ | refine Qaa ?_ _)
theorem Qgy (row who epoch last : Int) (A : Option Addr) (cap : Nat) (l : List Mk) (hl : l.length <= 1048576) (w : World) (hA : At w A l) :
 Calls Tryz.prog 142 #[.agg #[.int .i64 row, .int .i64 who, .int .i64 epoch, .int .i64 last, .slice A l.length cap]] w
  fun e w' => ∃ b, e = .returned (.agg #[.int .i64 row, .int .i64 who, .int .i64 epoch, .int .i64 last, .slice (some ⟨b, 0, none⟩) l.length l.length]) /\ Below w.heap.size w w' /\ w.heap.size <= b /\ b < w'.heap.size /\ In w' b 0 l /\ w'.there b 0 (l.length * 2) := by
 have HA : Hid (∀ W : World, Below w.heap.size w W -> At W A l) := fun W hW => hA.below hW
 clear hA
 go_enter Tryz.func142, Tryz.ntmps142
 go_wp2_with (go_at_call 166; refine (toMkS_any A cap l hl _ (HA.out _ ?_)).mono ?_; (repeat (first | exact Below.refl _ _ | assumption | refine via0 (by assumption) ?_ | refine Below.drew ?_ | refine Qaa ?_ _)); rintro e w1 ⟨rfl, g1, s1, i1, t1⟩; obtain ⟨k1, m1⟩ := Qaf g1)
 have i2 : In w1 (w.heap.size + 1 + 1 + 1) 0 l := by simpa using i1
 have t2 : w1.there (w.heap.size + 1 + 1 + 1) 0 (l.length * 2) := by simpa using t1
 have s2 : w.heap.size + 1 + 1 + 1 < w1.heap.size := by simpa using s1
 have g2 : Below w.heap.size w w1 := via0 g1 (by repeat (first | exact Below.refl _ _ | assumption | refine via0 (by assumption) ?_ | refine Below.drew ?_ | refine Qaa ?_ _))
 refine bodyPost_ret (v := .agg #[.int .i64 row, .int .i64 who, .int .i64 epoch, .int .i64 last, .slice (some ⟨w.heap.size + 1 + 1 + 1, 0, none⟩) l.length l.length]) (by simp [results, Tryz.results142, go_sem, k1]) rfl ⟨w.heap.size + 1 + 1 + 1, rfl, ?_, by omega, by simp; omega, ?_, ?_⟩
 . exact Qam (Qam (Qam (Qam (Qam (Qam (g2) (by omega) _) (by omega) _) (by omega) _) (by omega) _) (by omega) _) (by omega) _
 . exact In.set (In.set (In.set (In.set (In.set (In.set (i2) _ _ (by simp)) _ _ (by simp)) _ _ (by simp)) _ _ (by simp)) _ _ (by simp)) _ _ (by simp)
 . exact Qac (Qac (Qac (Qac (Qac (Qac (t2) _ _ _) _ _ _) _ _ _) _ _ _) _ _ _) _ _ _
theorem Qgj (row who epoch last : Int) (A A' : Option Addr) (cap cap' : Nat) (l : List Mk) (hl : l.length <= 9223372036854775807) (w : World) (hA : At w A l) (hA' : At w A' l) :
 Calls Tryz.prog 161 #[.agg #[.int .i64 row, .int .i64 who, .int .i64 epoch, .int .i64 last, .slice A l.length cap], .agg #[.int .i64 row, .int .i64 who, .int .i64 epoch, .int .i64 last, .slice A' l.length cap']] w fun e w' => e = .returned (.bool true) /\ Below w.heap.size w w' := by
 have HA : Hid (∀ W : World, Below w.heap.size w W -> At W A l) := fun W hW => hA.below hW
 have HA' : Hid (∀ W : World, Below w.heap.size w W -> At W A' l) := fun W hW => hA'.below hW
 clear hA hA'
 go_enter Tryz.func161, Tryz.ntmps161
 go_wp2_with (go_at_call 177; refine (eqMkS_same A A' cap cap' l hl _ (HA.out _ ?_) (HA'.out _ ?_)).mono ?_; (repeat (first | exact Below.refl _ _ | assumption | refine via0 (by assumption) ?_ | refine Below.drew ?_ | refine Qaa ?_ _)); (repeat (first | exact Below.refl _ _ | assumption | refine via0 (by assumption) ?_ | refine Below.drew ?_ | refine Qaa ?_ _)); rintro e w1 ⟨rfl, g1⟩)
 go_ret
 refine ⟨rfl, ?_⟩
 repeat (first | exact Below.refl _ _ | assumption | refine via0 (by assumption) ?_ | refine Below.drew ?_ | refine Qaa ?_ _)
end Go.Proofs.YtddijnmdeabjbaaGreat.Gen
namespace Go.Proofs.YtddijnmdeabjbaaGreat.Gen
open ChangeShapes WideShapes ChangeAt RowKit Joins Deep Base
structure MC where
  row : Int
  who : Int
  epoch : Int
  last : Int
  A : Option Addr
  cap : Nat
  ms : List Mk
instance : Inhabited MC := ⟨⟨0, 0, 0, 0, none, 0, []⟩⟩
instance : Cel MC where
  k := 5
  cs x := [.int .i64 x.row, .int .i64 x.who, .int .i64 x.epoch, .int .i64 x.last, .slice x.A x.ms.length x.cap]
  len _ := rfl
  one x u hu := by simp at hu; rcases hu with rfl | rfl | rfl | rfl | rfl<;>rfl
structure PM where
  row : Int
  who : Int
  epoch : Int
  last : Int
  ms : List Mk
def MC.p (x : MC) : PM := ⟨x.row, x.who, x.epoch, x.last, x.ms⟩
def MC.right (x : MC) : Prop := I64 x.row /\ I64 x.who /\ I64 x.epoch /\ I64 x.last /\ x.ms.length <= 9223372036854775807 /\ ∀ y ∈ x.ms, y.right
def Each (w : World) (l : List MC) : Prop := ∀ x ∈ l, At w x.A x.ms
theorem Each.below {w w' : World} {l : List MC} (h : Each w l) (hw : Below w.heap.size w w') : Each w' l := fun x hx => (h x hx).below hw
theorem In.getMC {w : World} {b o : Nat} {l : List MC} (h : In w b o l) (i : Nat) (hi : i < l.length) :
 w.cell? ⟨b, o + i * 5, none⟩ = some (.int .i64 l[i].row) /\ w.cell? ⟨b, o + i * 5 + 1, none⟩ = some (.int .i64 l[i].who) /\ w.cell? ⟨b, o + i * 5 + 2, none⟩ = some (.int .i64 l[i].epoch) /\
  w.cell? ⟨b, o + i * 5 + 3, none⟩ = some (.int .i64 l[i].last) /\ w.cell? ⟨b, o + i * 5 + 4, none⟩ = some (.slice l[i].A l[i].ms.length l[i].cap) :=
 ⟨h.cell i hi (f := 0) rfl, h.cell i hi (f := 1) rfl, h.cell i hi (f := 2) rfl, h.cell i hi (f := 3) rfl, h.cell i hi (f := 4) rfl⟩
theorem infoMC : (Tryz.prog.info? 194).map (fun i => (i.zero, i.size, i.bytes)) = some (some (.agg #[.int .i64 0, .int .i64 0, .int .i64 0, .int .i64 0, .slice none 0 0]), 5, 56) := by kernel_rfl
def szM (l : List MC) : Nat := l.length + (l.map (fun x => x.ms.length)).sum
theorem sum_snoc (l : List MC) (n : Nat) (hn : n < l.length) : ((l.take (n + 1)).map (fun x => x.ms.length)).sum = ((l.take n).map (fun x => x.ms.length)).sum + l[n].ms.length := by
 rw [List.take_succ_eq_append_getElem hn, List.map_append, List.sum_append]; rfl
theorem Qfv (A : Option Addr) (cap : Nat) (l : List MC) (hl : l.length <= 9223372036854775807) (hr : ∀ x ∈ l, x.ms.length <= 9223372036854775807) (left : Int) (h0 : 0 <= left) (h1 : left <= 1048576) (w : World) (hA : At w A l) :
 Calls Tryz.prog 110 #[.slice A l.length cap, .int .i64 left] w fun e w' => (∃ r : Int, e = .returned (.int .i64 r) /\ (r < 0 ∨ (0 <= r /\ r = left - (szM l : Int)))) /\ Below w.heap.size w w' := by
 have HA := hidP hA
 have Hr := hidP hr
 clear hA hr
 by_cases h : left < (l.length : Int)
 . have g : left - (l.length : Int) < 0 := by omega
   go_enter Tryz.func110, Tryz.ntmps110
   go_wp2
   go_ret
   exact ⟨⟨-1, rfl, .inl (by omega)⟩, Below.refl _ _⟩
 . have g : ¬ left - (l.length : Int) < 0 := by omega
   go_enter Tryz.func110, Tryz.ntmps110
   go_wp2
   go_loopw [1, 5] (fun q i w' => ∃ (n : Nat) (z : Int), i = .int .i64 (n : Int) /\ q = .int .i64 z /\ n <= l.length /\ 0 <= z /\ z <= 1048576 /\ Hid (z = left - (l.length : Int) - ((((l.take n).map (fun x => x.ms.length)).sum : Nat) : Int)) /\ Below w.heap.size w w') (fun _ i _ => l.length - (intOf i).toNat)
   case atStart => exact ⟨0, _, rfl, rfl, by omega, by omega, by omega, by simp [Hid], Below.refl _ _⟩
   case round =>
    obtain ⟨n, z, rfl, rfl, hn, hz0, hz1, hz, hbl⟩ := hrel
    by_cases hlt : n < l.length
    . obtain ⟨b, o, rfl, hbs, hIn⟩ : ∃ b o, A = some ⟨b, o, none⟩ /\ b < w.heap.size /\ In w b o l := by
       rcases HA.out with h | h
       . subst h; simp at hlt
       . exact h
      obtain ⟨c0, c1, c2, c3, c4⟩ := (hIn.below hbs hbl).getMC n hlt
      have hms := Hr.out _ (List.getElem_mem hlt)
      have hsn := hidP (sum_snoc l n hlt)
      by_cases hs : z < (l[n].ms.length : Int)
      . go_wp2_with (go_at_call 139; refine (Qdl _ _ _ _ _ _ _ hms z hz0 hz1 _).mono ?_; rw [if_pos hs]; rintro e w1 ⟨rfl, g1⟩)
        go_ret
        exact ⟨⟨-1, rfl, .inl (by omega)⟩, via0 g1 hbl⟩
      . have hp : ¬ z - (l[n].ms.length : Int) < 0 := by omega
        go_wp2_with (go_at_call 139; refine (Qdl _ _ _ _ _ _ _ hms z hz0 hz1 _).mono ?_; rw [if_neg hs]; rintro e w1 ⟨rfl, g1⟩)
        have hz' := hz.out
        have hsn' := hsn.out
        exact ⟨⟨n + 1, z - (l[n].ms.length : Int), by go_num, rfl, by omega, by omega, by omega, by show _ = _; rw [hsn']; omega, via0 g1 hbl⟩, by simp [intOf]; omega⟩
    . have e : l.take n = l := List.take_of_length_le (by omega)
      go_wp2
      go_ret
      have hz' := hz.out
      rw [e] at hz'
      exact ⟨⟨z, rfl, .inr ⟨hz0, by rw [hz', szM]; omega⟩⟩, hbl⟩
theorem Qfd (A A' : Option Addr) (cap cap' : Nat) (l l' : List MC) (hl : l.length <= 9223372036854775807) (hr : ∀ x ∈ l, x.ms.length <= 9223372036854775807) (hsame : l'.map MC.p = l.map MC.p) (w : World) (hA : At w A l) (hE : Each w l) (hA' : At w A' l') (hE' : Each w l') :
 Calls Tryz.prog 133 #[.slice A l.length cap, .slice A' l.length cap'] w fun e w' => e = .returned (.bool true) /\ Below w.heap.size w w' := by
 have HA := hidP hA
 have HE := hidP hE
 have HA' := hidP hA'
 have HE' := hidP hE'
 have Hr := hidP hr
 have HS := hidP hsame
 have HLL : Hid (l'.length = l.length) := by have := congrArg List.length hsame; show _ = _; simpa using this
 clear hA hE hA' hE' hr hsame
 go_enter Tryz.func133, Tryz.ntmps133
 go_wp2
 go_loopw [5] (fun i w' => ∃ (n : Nat), i = .int .i64 (n : Int) /\ n <= l.length /\ Below w.heap.size w w') (fun i _ => l.length - (intOf i).toNat)
 case atStart => exact ⟨0, rfl, by omega, Below.refl _ _⟩
 case round =>
  obtain ⟨n, rfl, hn, hbl⟩ := hrel
  by_cases hlt : n < l.length
  . have hll := HLL.out
    obtain ⟨b, o, rfl, hbs, hin⟩ : ∃ b o, A = some ⟨b, o, none⟩ /\ b < w.heap.size /\ In w b o l := by
     rcases HA.out with h | h
     . subst h; simp at hlt
     . exact h
    obtain ⟨b', o', rfl, hbs', hin'⟩ : ∃ b o, A' = some ⟨b, o, none⟩ /\ b < w.heap.size /\ In w b o l' := by
     rcases HA'.out with h | h
     . subst h; simp at hll; omega
     . exact h
    have hp : (l'[n]'(by omega)).p = l[n].p := by
     have h1 : (l'.map MC.p)[n]'(by simp; omega) = (l.map MC.p)[n]'(by simpa using hlt) := by simp only [HS.out]
     simpa using h1
    obtain ⟨c0, c1, c2, c3, c4⟩ := (hin.below hbs hbl).getMC n hlt
    obtain ⟨d0, d1, d2, d3, d4⟩ := (hin'.below hbs' hbl).getMC n (by omega)
    have hx := (HE.out _ (List.getElem_mem hlt)).below hbl
    have hx' := (HE'.out _ (List.getElem_mem (show n < l'.length by omega))).below hbl
    have hmsl := Hr.out _ (List.getElem_mem hlt)
    rw [show (l'[n]'(by omega)).row = l[n].row from congrArg PM.row hp] at d0
    rw [show (l'[n]'(by omega)).who = l[n].who from congrArg PM.who hp] at d1
    rw [show (l'[n]'(by omega)).epoch = l[n].epoch from congrArg PM.epoch hp] at d2
    rw [show (l'[n]'(by omega)).last = l[n].last from congrArg PM.last hp] at d3
    rw [show (l'[n]'(by omega)).ms = l[n].ms from congrArg PM.ms hp] at d4 hx'
    generalize (l'[n]'(by omega)).A = aa at d4 hx'
    generalize (l'[n]'(by omega)).cap = cc at d4
    generalize l[n] = x at c0 c1 c2 c3 c4 d0 d1 d2 d3 d4 hx hx' hmsl
    obtain ⟨row, who, epoch, last, xA, xc, ms⟩ := x
    simp only at c0 c1 c2 c3 c4 d0 d1 d2 d3 d4 hx hx' hmsl
    have hx := hidP hx
    have hx' := hidP hx'
    clear hp hll
    have hb1 : b < wr.heap.size := Nat.lt_of_lt_of_le hbs hbl.size
    have hb2 : b' < wr.heap.size := Nat.lt_of_lt_of_le hbs' hbl.size
    have hi0 : (0 : Int) <= (n : Int) := by omega
    have hi1 : (n : Int) < (l.length : Int) := by omega
    go_wp2
    go_region_held3 (fun w' => w'.cell? ⟨b, o + n * 5, none⟩ = some (.int .i64 row) /\ w'.cell? ⟨b, o + n * 5 + 1, none⟩ = some (.int .i64 who) /\ w'.cell? ⟨b, o + n * 5 + 2, none⟩ = some (.int .i64 epoch) /\ w'.cell? ⟨b, o + n * 5 + 3, none⟩ = some (.int .i64 last) /\ w'.cell? ⟨b, o + n * 5 + 4, none⟩ = some (.slice xA ms.length xc) /\
     w'.cell? ⟨b', o' + n * 5, none⟩ = some (.int .i64 row) /\ w'.cell? ⟨b', o' + n * 5 + 1, none⟩ = some (.int .i64 who) /\ w'.cell? ⟨b', o' + n * 5 + 2, none⟩ = some (.int .i64 epoch) /\ w'.cell? ⟨b', o' + n * 5 + 3, none⟩ = some (.int .i64 last) /\ w'.cell? ⟨b', o' + n * 5 + 4, none⟩ = some (.slice aa ms.length cc))
     (first | (go_split_ands; refine ⟨?_, ?_, ?_, ?_, ?_, ?_, ?_, ?_, ?_, ?_⟩<;>first | assumption | exact (k1 _ _ hb1).trans (by assumption) | exact (k1 _ _ hb2).trans (by assumption)) | go_keep)
     (first
      | (go_at_call 161; refine (Qgj row who epoch last xA aa xc cc ms hmsl _ (hx.out.below (Below.drew (Below.refl _ _))) (hx'.out.below (Below.drew (Below.refl _ _)))).mono ?_; rintro e w1 ⟨rfl, g1⟩; obtain ⟨k1, m1⟩ := Qaf g1))
    all_goals
     go_wp2
     exact ⟨⟨n + 1, by go_num, by omega, via0 g1 hbl.drew⟩, by simp [intOf]; omega⟩
  . go_wp2
    go_ret
    exact ⟨rfl, hbl⟩
theorem cellsMC : Tryz.prog.cellsOf 221 = 5 := by kernel_rfl
theorem openMC {H : Type} {enc : TypeId × Value -> H} {w : World} {base n : Nat} {spare : Nat -> Bool} {held : Bool} {a : Addr} {cs : List Value} {y : DataW H × List MemPlace}
 (h1 : w.cells? base a 5 = some cs) (h2 : DataW.trod enc Tryz.prog w base spare held n 221 cs = some y) :
 ∃ x : MC, (x.right /\ At w x.A x.ms) /\ a.spot = none /\ a.block < w.heap.size /\ ∀ j v, (Cel.cs x)[j]? = some v -> w.cell? ⟨a.block, a.off + j, none⟩ = some v := by
 obtain ⟨_, hlen, hc⟩ := World.cells?_some h1
 match cs, hlen with
 | [c0, c1, c2, c3, c4], _ =>
  obtain ⟨m, hf⟩ := Qaz Tryz.underlying221 (by kernel_rfl) h2
  obtain ⟨y0, g0⟩ := hf 0 _ rfl _ rfl
  obtain ⟨y1, g1⟩ := hf 1 _ rfl _ rfl
  obtain ⟨y2, g2⟩ := hf 2 _ rfl _ rfl
  obtain ⟨y3, g3⟩ := hf 3 _ rfl _ rfl
  obtain ⟨y4, g4⟩ := hf 4 _ rfl _ rfl
  obtain ⟨row, e0, _, w0⟩ := DataW.trod_int Tryz.underlying3 g0
  obtain ⟨who, e1, _, w1⟩ := DataW.trod_int Tryz.underlying3 g1
  obtain ⟨epoch, e2, _, w2⟩ := DataW.trod_int Tryz.underlying3 g2
  obtain ⟨last, e3, _, w3⟩ := DataW.trod_int Tryz.underlying3 g3
  simp at e0 e1 e2 e3
  subst e0 e1 e2 e3
  have q0 := hc 0 (by omega)
  have hsp : a.spot = none := by
   cases hs : a.spot with
   | none => rfl
   | some s => exfalso; simp [Addr.add, World.cell?, hs] at q0; split at q0<;>simp at q0
  have hlt : a.block < w.heap.size := by
   rw [show a.add 0 = a from rfl] at q0
   unfold World.cell? at q0
   cases hh : w.heap[a.block]? with
   | none => simp [hh] at q0
   | some ob => exact (Array.getElem?_eq_some_iff.1 hh).1
  obtain ⟨A, cap, l, rfl, hl, hR, hat⟩ : ∃ (A : Option Addr) (cap : Nat) (l : List Mk), c4 = .slice A l.length cap /\ l.length <= 9223372036854775807 /\ (∀ x ∈ l, x.right) /\ At w A l := by
   rcases open_slice Tryz.underlying219 g4 with ⟨e2, _⟩ | ⟨a, len, cap, m, n', D, Pl, e2, _, hl, hm, hmm, _, hx⟩
   . simp at e2
     subst e2
     exact ⟨none, 0, [], rfl, by simp, by simp, .inl rfl⟩
   . simp at e2
     subst e2
     have hle : len <= m := by rw [hmm]; split<;>omega
     rw [cellsMk] at hx
     obtain ⟨X, hX⟩ := choose_lt (α := Mk) (p := fun i x => x.right /\ (a.add (i * 2)).spot = none /\ (a.add (i * 2)).block < w.heap.size /\ ∀ j v, (Cel.cs x)[j]? = some v -> w.cell? ⟨(a.add (i * 2)).block, (a.add (i * 2)).off + j, none⟩ = some v)
      (n := len) (fun i hi => by obtain ⟨cs', h1, h2⟩ := hx i (by omega); exact openMk h1 h2)
     obtain ⟨l, rfl, hR, hat⟩ := Qcw (α := Mk) (by decide) (R := Mk.right) hX
     exact ⟨some a, cap, l, rfl, by simp [maxLen] at hm ⊢; omega, hR, hat⟩
  refine ⟨⟨row, who, epoch, last, A, cap, l⟩, ⟨⟨Qao w0, Qao w1, Qao w2, Qao w3, hl, hR⟩, hat⟩, hsp, hlt, ?_⟩
  intro j v hv
  have hj : j < 5 := (List.getElem?_eq_some_iff.1 hv).1
  have q := hc j hj
  have e : a.add j = ⟨a.block, a.off + j, none⟩ := by
   obtain ⟨b, o, s⟩ := a
   simp only at hsp
   subst hsp
   exact Addr.add_mid b o j
  rw [e] at q
  rw [q]
  exact hv
theorem Qes {H : Type} {enc : TypeId × Value -> H} {W : World} {base n : Nat} {spare : Nat -> Bool} {held : Bool} {c : Value} {y : DataW H × List MemPlace}
 (g : DataW.trod enc Tryz.prog W base spare held n 105 [c] = some y) :
 ∃ (A : Option Addr) (cap : Nat) (l : List MC), c = .slice A l.length cap /\ l.length <= 9223372036854775807 /\ (∀ x ∈ l, x.right) /\ At W A l /\ Each W l := by
 rcases open_slice Tryz.underlying105 g with ⟨e2, _⟩ | ⟨a, len, cap, m, n', D, Pl, e2, _, hl, hm, hmm, _, hx⟩
 . simp at e2
   subst e2
   exact ⟨none, 0, [], rfl, by simp, by simp, .inl rfl, by simp [Each]⟩
 . simp at e2
   subst e2
   have hle : len <= m := by rw [hmm]; split<;>omega
   rw [cellsMC] at hx
   obtain ⟨X, hX⟩ := choose_lt (α := MC) (p := fun i x => (x.right /\ At W x.A x.ms) /\ (a.add (i * 5)).spot = none /\ (a.add (i * 5)).block < W.heap.size /\ ∀ j v, (Cel.cs x)[j]? = some v -> W.cell? ⟨(a.add (i * 5)).block, (a.add (i * 5)).off + j, none⟩ = some v)
    (n := len) (fun i hi => by obtain ⟨cs', h1, h2⟩ := hx i (by omega); exact openMC h1 h2)
   obtain ⟨l, rfl, hR, hat⟩ := Qcw (α := MC) (by decide) (R := fun x => x.right /\ At W x.A x.ms) hX
   exact ⟨some a, cap, l, rfl, by simp [maxLen] at hm ⊢; omega, fun x hx => (hR x hx).1, hat, fun x hx => (hR x hx).2⟩
end Go.Proofs.YtddijnmdeabjbaaGreat.Gen
namespace Go.Proofs.YtddijnmdeabjbaaGreat.Items
open ChangeShapes WideShapes ChangeAt RowKit Base
structure It where
  off : Int
  key : ByteArray
  text : ByteArray
  who : Int
  time : Int
def It.cs (x : It) : List Value := [.int .i64 x.off, .string x.key, .string x.text, .int .i64 x.who, .int .i64 x.time]
def flat (l : List It) : List Value := l.flatMap It.cs
theorem It.cs_length (x : It) : x.cs.length = 5 := rfl
theorem Qbo (l : List It) : (flat l).length = l.length * 5 := by
 induction l with
 | nil => rfl
 | cons a l ih => simp only [flat, List.flatMap_cons, List.length_append, List.length_cons] at ih ⊢; rw [ih, It.cs_length]; omega
theorem Qbz (l m : List It) : flat (l ++ m) = flat l ++ flat m := by simp [flat]
theorem Qdf (x : It) : flat [x] = x.cs := by simp [flat]
theorem Qdx (x : It) (l : List It) : flat (x :: l) = x.cs ++ flat l := by simp [flat]
theorem Qdg (l : List It) : ∀ (i : Nat) (h : i < l.length) (f : Nat), f < 5 -> (flat l)[i * 5 + f]? = (l[i].cs)[f]? := by
 induction l with
 | nil => intro i h; simp at h
 | cons a l ih =>
  intro i h f hf
  rw [Qdx]
  cases i with
  | zero => rw [List.getElem?_append_left (by rw [It.cs_length]; omega)]; simp
  | succ i =>
   rw [List.getElem?_append_right (by rw [It.cs_length]; omega), It.cs_length]
   have e : (i + 1) * 5 + f - 5 = i * 5 + f := by omega
   rw [e, ih i (by simpa using h) f hf]; simp
def In (w : World) (b o : Nat) (l : List It) : Prop := w.rangeAt b o (flat l)
theorem In.get {w : World} {b o : Nat} {l : List It} (h : In w b o l) (i : Nat) (hi : i < l.length) :
 w.cell? ⟨b, o + i * 5, none⟩ = some (.int .i64 l[i].off) /\ w.cell? ⟨b, o + i * 5 + 1, none⟩ = some (.string l[i].key) /\ w.cell? ⟨b, o + i * 5 + 2, none⟩ = some (.string l[i].text) /\
 w.cell? ⟨b, o + i * 5 + 3, none⟩ = some (.int .i64 l[i].who) /\ w.cell? ⟨b, o + i * 5 + 4, none⟩ = some (.int .i64 l[i].time) := by
 have g : ∀ f v, f < 5 -> (l[i].cs)[f]? = some v -> w.cell? ⟨b, o + (i * 5 + f), none⟩ = some v := fun f v hf hv => h (i * 5 + f) v (by rw [Qdg l i hi f hf]; exact hv)
 exact ⟨g 0 _ (by omega) rfl, g 1 _ (by omega) rfl, g 2 _ (by omega) rfl, g 3 _ (by omega) rfl, g 4 _ (by omega) rfl⟩
theorem In.below {w w' : World} {b o : Nat} {l : List It} (h : In w b o l) (hb : b < w.heap.size) (hw : Below w.heap.size w w') : In w' b o l :=
 fun j v hv => (hw.cell (p := ⟨b, o + j, none⟩) hb).trans (h j v hv)
end Go.Proofs.YtddijnmdeabjbaaGreat.Items
namespace Go.Proofs.YtddijnmdeabjbaaGreat.Items
open ChangeShapes WideShapes ChangeAt RowKit Base
theorem via0 {a b c : World} (k : Below b.heap.size b c) (h : Below a.heap.size a b) : Below a.heap.size a c := h.trans (k.mono h.size)
theorem Qaa {a b : World} (h : Below a.heap.size a b) (o : Obj) : Below a.heap.size a (b.alloc o) := h.alloc h.size o
def szI (k t : Nat) (left : Int) : Int := if left < k then -1 else if left < k + t then -1 else left - k - t
theorem szItem_any (off who time : Int) (k t : ByteArray) (left : Int) (h0 : 0 <= left) (h1 : left <= 1048576) (hk : k.size <= 9223372036854775807) (ht : t.size <= 9223372036854775807) (w : World) :
 Calls Tryz.prog 178 #[.agg #[.int .i64 off, .string k, .string t, .int .i64 who, .int .i64 time], .int .i64 left] w fun e w' => e = .returned (.int .i64 (szI k.size t.size left)) /\ Below w.heap.size w w' := by
 by_cases h1 : left < k.size
 focus
  have g1 : left - (k.size : Int) < 0 := by omega
  have e1 : szI k.size t.size left = -1 := by simp [szI, h1]
 rotate_left
 focus
  have g1 : ¬ left - (k.size : Int) < 0 := by omega
  by_cases h2 : left < k.size + t.size
  focus
   have g2 : left - (k.size : Int) - (t.size : Int) < 0 := by omega
   have e1 : szI k.size t.size left = -1 := by simp [szI, h1, h2]
  rotate_left
  focus
   have g2 : ¬ left - (k.size : Int) - (t.size : Int) < 0 := by omega
   have e1 : szI k.size t.size left = left - k.size - t.size := by simp [szI, h1, h2]
 all_goals
  rw [e1]
  go_enter Tryz.func178, Tryz.ntmps178
  go_wp2
  go_ret
  exact ⟨rfl, by repeat (first | exact Below.refl _ _ | refine via0 (by assumption) ?_ | refine Below.drew ?_ | refine Qaa ?_ _)⟩
theorem szI_ge {k t : Nat} {left : Int} (h0 : 0 <= left) (h : 0 <= szI k t left) : szI k t left = left - k - t := by
 unfold szI at h ⊢
 split at h
 . omega
 . split at h
   . omega
   . rw [if_neg (by assumption), if_neg (by assumption)]
def tot : List It -> Nat
  | [] => 0
  | x :: l => x.key.size + x.text.size + tot l
theorem tot_append (l m : List It) : tot (l ++ m) = tot l + tot m := by
 induction l with
 | nil => simp [tot]
 | cons x l ih => simp only [List.cons_append, tot, ih]; omega
theorem tot_take {l : List It} {n : Nat} (h : n < l.length) : tot (l.take (n + 1)) = tot (l.take n) + (l[n].key.size + l[n].text.size) := by
 rw [List.take_succ_eq_append_getElem h, tot_append]; simp [tot]
theorem szItemS_at (A : Option Addr) (cap : Nat) (l : List It) (hl : l.length <= 9223372036854775807) (hs : ∀ x ∈ l, x.key.size <= 9223372036854775807 /\ x.text.size <= 9223372036854775807) (left : Int) (hl0 : 0 <= left) (hl1 : left <= 1048576) (w : World)
 (hA : l = [] ∨ ∃ b o, A = some ⟨b, o, none⟩ /\ b < w.heap.size /\ In w b o l) :
 Calls Tryz.prog 163 #[.slice A l.length cap, .int .i64 left] w fun e w' => ∃ r : Int, e = .returned (.int .i64 r) /\ (r = -1 ∨ (0 <= r /\ r = left - l.length - tot l)) /\ Below w.heap.size w w' := by
 by_cases hb : left - (l.length : Int) < 0
 . go_enter Tryz.func163, Tryz.ntmps163
   go_wp2
   go_ret
   exact ⟨-1, rfl, .inl rfl, Below.refl _ _⟩
 . have HA : Hid (l = [] ∨ ∃ b o, A = some ⟨b, o, none⟩ /\ b < w.heap.size /\ In w b o l) := hA
   clear hA
   go_enter Tryz.func163, Tryz.ntmps163
   go_wp2
   go_loopw [1, 5] (fun le i w' => ∃ (n : Nat) (r : Int), i = .int .i64 (n : Int) /\ le = .int .i64 r /\ n <= l.length /\ 0 <= r /\ r <= 1048576 /\ Hid (r = left - l.length - tot (l.take n)) /\ Below w.heap.size w w') (fun _ i _ => l.length - (intOf i).toNat)
   case atStart => exact ⟨0, _, rfl, rfl, by omega, by omega, by omega, by simp [tot, Hid], Below.refl _ _⟩
   case round =>
    obtain ⟨n, r, rfl, rfl, hn, h0, h1, hr, hbl⟩ := hrel
    by_cases hlt : n < l.length
    . obtain ⟨b, o, rfl, hbs, hin⟩ : ∃ b o, A = some ⟨b, o, none⟩ /\ b < w.heap.size /\ In w b o l := by
       rcases HA.out with h | h
       . subst h; simp at hlt
       . exact h
      obtain ⟨hc0, hc1, hc2, hc3, hc4⟩ := (hin.below hbs hbl).get n hlt
      obtain ⟨hk, ht⟩ := hs l[n] (List.getElem_mem hlt)
      have HT := tot_take hlt
      go_wp2_with (go_at_call 178; refine (szItem_any _ _ _ _ _ _ h0 h1 hk ht _).mono ?_; rintro e w1 ⟨rfl, g1⟩)
      . go_ret
        exact ⟨-1, rfl, .inl rfl, via0 g1 hbl⟩
      . have hge : 0 <= szI l[n].key.size l[n].text.size r := by assumption
        have he := szI_ge h0 hge
        refine ⟨⟨n + 1, szI l[n].key.size l[n].text.size r, by go_num, rfl, by omega, hge, by omega, ?_, via0 g1 hbl⟩, by simp [intOf]; omega⟩
        have hr' := hr.out
        show szI l[n].key.size l[n].text.size r = left - l.length - tot (l.take (n + 1))
        rw [HT, he, hr']
        omega
    . have e : l.take n = l := List.take_of_length_le (by omega)
      go_wp2
      go_ret
      exact ⟨r, rfl, .inr ⟨h0, by have := hr.out; rw [e] at this; exact this⟩, hbl⟩
theorem szRow_at (start next : Int) (A : Option Addr) (cap : Nat) (l : List It) (hl : l.length <= 9223372036854775807) (hs : ∀ x ∈ l, x.key.size <= 9223372036854775807 /\ x.text.size <= 9223372036854775807) (left : Int) (hl0 : 0 <= left) (hl1 : left <= 1048576) (w : World)
 (hA : l = [] ∨ ∃ b o, A = some ⟨b, o, none⟩ /\ b < w.heap.size /\ In w b o l) :
 Calls Tryz.prog 138 #[.agg #[.int .i64 start, .int .i64 next, .slice A l.length cap], .int .i64 left] w fun e w' => ∃ r : Int, e = .returned (.int .i64 r) /\ (r < 0 ∨ (0 <= r /\ r = left - l.length - tot l)) /\ Below w.heap.size w w' := by
 have hA' : ∀ ob : Obj, l = [] ∨ ∃ b o, A = some ⟨b, o, none⟩ /\ b < (w.alloc ob).heap.size /\ In (w.alloc ob) b o l := fun ob => by
  rcases hA with h | ⟨b, o, h1, h2, h3⟩
  . exact .inl h
  . exact .inr ⟨b, o, h1, by simp; omega, h3.below h2 (Qaa (Below.refl _ _) ob)⟩
 have HA : Hid (∀ ob : Obj, l = [] ∨ ∃ b o, A = some ⟨b, o, none⟩ /\ b < (w.alloc ob).heap.size /\ In (w.alloc ob) b o l) := hA'
 clear hA hA'
 go_enter Tryz.func138, Tryz.ntmps138
 go_wp2_with (go_at_call 163; refine (szItemS_at A cap l hl hs left hl0 hl1 _ (HA.out _)).mono ?_; rintro e w1 ⟨r, rfl, hr, g1⟩; have HR : Hid (r = -1 ∨ (0 <= r /\ r = left - l.length - tot l)) := hr; clear hr)
 . go_ret
   refine ⟨-1, rfl, .inl (by omega), ?_⟩
   repeat (first | exact Below.refl _ _ | refine via0 (by assumption) ?_ | refine Below.drew ?_ | refine Qaa ?_ _)
 . go_ret
   refine ⟨r, rfl, ?_, ?_⟩
   . rcases HR.out with h | h
     . omega
     . exact .inr h
   . repeat (first | exact Below.refl _ _ | refine via0 (by assumption) ?_ | refine Below.drew ?_ | refine Qaa ?_ _)
end Go.Proofs.YtddijnmdeabjbaaGreat.Items
namespace Go.Proofs.YtddijnmdeabjbaaGreat.Items
open ChangeShapes WideShapes ChangeAt RowKit Base
def markT (k : Nat) : ByteArray := ⟨(109 :: Lib.decDigits k).toArray⟩
def markZ (z : Int) : ByteArray := markT z.toNat
end Go.Proofs.YtddijnmdeabjbaaGreat.Items
