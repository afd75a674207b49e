/-
  A keeper of one's own: four of its lists are written in place, no other list lies in their blocks; a keeper under way, list by list. No condition.
-/
import Derived.Test.YtmdaammalacifaaGreatGrpCopy
set_option linter.unusedVariables false
set_option linter.unusedSimpArgs false
set_option maxRecDepth 100000
set_option maxHeartbeats 8000000
namespace Go.Proofs.YtmdaammalacifaaGreat.Gen
open ChangeShapes WideShapes ChangeAt RowKit Joins Deep Base
open Items (It)
section
variable {α : Type} [Cel α] {W W' : World} {A : Option Addr} {l : List α} {S T : Nat -> Prop}
end
structure Pl {α : Type} [Cel α] (W : World) (A : Option Addr) (l : List α) (b : Nat) : Prop where
  a : A = some ⟨b, 0, none⟩
  lt : b < W.heap.size
  i : In W b 0 l
  th : W.there b 0 (l.length * Cel.k α)
section
variable {α : Type} [Cel α] {W W' : World} {A : Option Addr} {l : List α} {b : Nat} {T : Nat -> Prop}
theorem Pl.of_own {B : Nat} {t : TypeId} {c : Nat} (h : W.ownsRow B t (Cel.k α) (.slice A l.length c) l.length (flat l)) (hl : 0 < l.length) : ∃ b, Pl W A l b /\ B <= b /\ (Value.slice A l.length c).ownBlock = some b := by
 rcases h.2 with ⟨e, h0⟩ | ⟨g, c', cur, e, hB, hg, hc, hm, hsz, ht⟩
 . omega
 . cases e
   obtain ⟨A', c2, e2, _, h1⟩ := Qdt (α := α) (t := t) hg hB hc hsz ht
   cases e2
   rcases h1 with h1 | ⟨b, o, e3, hB', hb, hi, hth⟩
   . subst h1; simp at hl
   . cases e3
     exact ⟨g, ⟨rfl, hb, hi, hth⟩, hB, rfl⟩
end
section
variable {W W' : World} {x : KC} {S S' T : Nat -> Prop} {br bg bd bl : Nat}
end
def Stay2 (P B : Nat) (Pk : World -> Prop) : Prop := ∀ (W W' : World) (T : Nat -> Prop), Pk W -> Offp T W W' -> (∀ x, T x -> x = P ∨ B <= x) -> Pk W'
end Go.Proofs.YtmdaammalacifaaGreat.Gen
namespace Go.Proofs.YtmdaammalacifaaGreat.Gen
open ChangeShapes WideShapes ChangeAt RowKit Joins Deep Base
structure GS {α : Type} [Cel α] (P : World -> α -> (Nat -> Prop) -> Prop) (t : TypeId) (S : Nat -> Prop) (W : World) (a : Option Addr) (cp : Nat) (xs : List α) : Prop where
  own : W.ownsRow 0 t (Cel.k α) (.slice a xs.length cp) xs.length (flat xs)
  ob : ∀ y, (Value.slice a xs.length cp).ownBlock = some y -> S y
  fps : ∃ fp : Nat -> Nat -> Prop, (∀ (i : Nat) (h : i < xs.length), P W xs[i] (fp i)) /\ (∀ i j, i ≠ j -> ∀ x, fp i x -> ¬ fp j x) /\ ∀ i x, fp i x -> i < xs.length /\ S x /\ x < W.heap.size /\ (Value.slice a xs.length cp).ownBlock ≠ some x
section
variable {α : Type} [Cel α] {P : World -> α -> (Nat -> Prop) -> Prop} {t : TypeId} {S : Nat -> Prop} {b B : Nat} {W W1 : World} {a : Option Addr} {cp : Nat} {xs : List α}
theorem GU.gs (h : GU P t b B W a cp xs) : GS P t (fun z => B <= z /\ z < W.heap.size) W a cp xs := by
 obtain ⟨own, ⟨fp, f1, f2, f3⟩, hb, hB⟩ := h
 exact ⟨Qch own (Nat.zero_le _), fun y hy => own.lt y hy, fp, f1, f2, fun i x hx => ⟨(f3 i x hx).1, ⟨(f3 i x hx).2.1, (f3 i x hx).2.2.1⟩, (f3 i x hx).2.2⟩⟩
theorem GS.offp (hP : Firm P) (h : GS P t S W a cp xs) {T : Nat -> Prop} (k : Offp T W W1) (hT : ∀ x, S x -> ¬ T x) : GS P t S W1 a cp xs := by
 obtain ⟨own, ob, fp, f1, f2, f3⟩ := h
 exact ⟨Qcg own k (fun y hy e => hT y (ob y hy) e), ob, fp, fun i hi => hP _ _ _ _ _ (f1 i hi) k (fun y hy e => hT y (f3 i y hy).2.1 e), f2, fun i x hx => ⟨(f3 i x hx).1, (f3 i x hx).2.1, Nat.lt_of_lt_of_le (f3 i x hx).2.2.1 k.size, (f3 i x hx).2.2.2⟩⟩
theorem GS.below (hP : Firm P) (h : GS P t S W a cp xs) (k : Below W.heap.size W W1) : GS P t S W1 a cp xs := h.offp hP (Offp.of_below (S := fun _ => False) k) (fun _ _ e => e)
theorem GS.toOwn (h : GS P t S W a cp xs) : Own P W a xs S := by
 obtain ⟨own, ob, fp, f1, f2, f3⟩ := h
 by_cases h0 : 0 < xs.length
 . obtain ⟨b, h1, h2, h3⟩ := Pl.of_own own h0
   exact .inr ⟨b, 0, fp, h1.a, ob b h3, fun i x hx => (f3 i x hx).2.1, ⟨h1.lt, h1.i, h1.th, f1, f2, fun i hx => (f3 i b hx).2.2.2 h3⟩⟩
 . exact .inl (List.length_eq_zero_iff.1 (by omega))
theorem GS.app (hP : Firm P) {pg : Program} {ts : TypeId} {z : Value} {bytes : Nat} (hu : pg.underlying ts = some (.slice t)) (hinfo : (pg.info? t).map (fun i => (i.zero, i.size, i.bytes)) = some (some z, Cel.k α, bytes)) (hz : z.cells.size = Cel.k α) (hk : 0 < Cel.k α) (hby : bytes <= 1000)
 (h : GS P t S W a cp xs) (hS0 : ∀ y, S y -> y < W.heap.size) (k : Below W.heap.size W W1) (x : α) (hy : P W1 x (fun y => W.heap.size <= y /\ y < W1.heap.size)) (cs : Array Value) (hcs : cs.toList = Cel.cs x) (hx : xs.length <= 2000000) :
 ∃ a2 c2 W2, (Builtin.append_ #[ts, ts] ts #[.slice a xs.length cp, .slice (some ⟨W1.heap.size, 0, none⟩) 1 1]).run pg (W1.alloc (.cells cs t)) = .ok (.slice a2 (xs.length + 1) c2) W2 /\ GS P t (fun y => S y ∨ (W.heap.size <= y /\ y < W2.heap.size)) W2 a2 c2 (xs ++ [x]) /\ Offp S (W1.alloc (.cells cs t)) W2 := by
 have h1 := h.below hP k
 have hws := k.size
 obtain ⟨own0, ob, fq, q1, q2, q3⟩ := h
 obtain ⟨own1', _, _⟩ := h1
 have own1 := Qbn own1' (.cells cs t)
 have hX : At (W1.alloc (.cells cs t)) (some ⟨W1.heap.size, 0, none⟩) [x] := by
  refine .inr ⟨_, 0, rfl, by simp, fun j u hu => ?_⟩
  rw [Qbe, ← hcs] at hu
  rw [Nat.zero_add]
  exact (Blk.new W1 t cs).cell (by simpa using hu)
 obtain ⟨v', W2, hr, hown, hgrow, hob⟩ := Qa0 (P := pg) hu hinfo hz hk hby 0 (.slice a xs.length cp) xs [x] (some ⟨W1.heap.size, 0, none⟩) 1 _ (Nat.zero_le _) own1 hX (by simp; omega)
 simp only [List.length_cons, List.length_nil, Nat.zero_add] at hown hr
 obtain ⟨a2, c2, rfl, _⟩ := Qar hown
 have ko := Qcv hgrow
 have hs2 : W1.heap.size + 1 <= W2.heap.size := by have := ko.size; simpa using this
 have kb : Offp (fun _ => False) W1 (W1.alloc (.cells cs t)) := Offp.of_below (Qab (Below.refl _ _) _)
 have hob' : ∀ y, (Value.slice a2 (xs ++ [x]).length c2).ownBlock = some y -> (Value.slice a xs.length cp).ownBlock = some y ∨ (y = W1.heap.size + 1 /\ y < W2.heap.size) := by
  intro y e
  rw [List.length_append] at e
  have e2 : (Value.slice a2 (xs.length + 1) c2).ownBlock = some y := e
  have hlt := (hown.lt y e2).2
  rcases hob with h' | h'
  . exact .inl (h' ▸ e2)
  . rw [h'] at e2
    simp only [World.size_alloc, Option.some.injEq] at e2
    exact .inr ⟨e2.symm, hlt⟩
 refine ⟨a2, c2, W2, hr, ⟨by rw [List.length_append]; exact hown, fun y hy' => ?_, fun i => if i = xs.length then (fun y => W.heap.size <= y /\ y < W1.heap.size) else fq i, ?_, ?_, ?_⟩, ko.mono (fun y e => ob y e)⟩
 . rcases hob' y hy' with e | e
   . exact .inl (ob y e)
   . exact .inr ⟨by omega, by omega⟩
 . intro i hi
   by_cases e : i = xs.length
   . subst e
     simp only [if_true]
     rw [List.getElem_append_right (Nat.le_refl _)]
     simp only [Nat.sub_self, List.getElem_cons_zero]
     exact hP _ _ _ _ _ (hP _ _ _ _ _ hy kb (fun _ _ e => e)) ko (fun y hy e => by have := hS0 y (ob y e); omega)
   . have hi' : i < xs.length := by simp at hi; omega
     simp only [if_neg e]
     rw [List.getElem_append_left hi']
     exact hP _ _ _ _ _ (hP _ _ _ _ _ (hP _ _ _ _ _ (q1 i hi') (Offp.of_below (S := fun _ => False) k) (fun _ _ e => e)) kb (fun _ _ e => e)) ko (fun y hy e => (q3 i y hy).2.2.2 e)
 . intro i j hij y hy' hy2
   by_cases e1 : i = xs.length
   . by_cases e2 : j = xs.length
     . omega
     . simp only [if_pos e1] at hy'
       simp only [if_neg e2] at hy2
       have := (q3 j y hy2).2.2.1
       omega
   . by_cases e2 : j = xs.length
     . simp only [if_neg e1] at hy'
       simp only [if_pos e2] at hy2
       have := (q3 i y hy').2.2.1
       omega
     . simp only [if_neg e1] at hy'
       simp only [if_neg e2] at hy2
       exact q2 i j hij y hy' hy2
 . intro i y hy'
   by_cases e1 : i = xs.length
   . simp only [if_pos e1] at hy'
     refine ⟨by simp; omega, .inr ⟨hy'.1, by omega⟩, by omega, fun e => ?_⟩
     rcases hob' y e with e | e
     . have := hS0 y (ob y e); omega
     . omega
   . simp only [if_neg e1] at hy'
     have hh := q3 i y hy'
     refine ⟨by simp; omega, .inl hh.2.1, by omega, fun e => ?_⟩
     rcases hob' y e with e | e
     . exact hh.2.2.2 e
     . omega
end
end Go.Proofs.YtmdaammalacifaaGreat.Gen
