/-
  A list that grows, each record in blocks of its own, all of them of a set: no condition.
-/
import Derived.Test.YtengolneibbdfaaGreatAnsList
import Derived.Test.YtengolneibbdfaaGreatKQs
import Derived.Test.YtengolneibbdfaaGreatKeepV
import Derived.Test.YtengolneibbdfaaGreatAns
namespace Go.Proofs.YtengolneibbdfaaGreat.Gen
open Go.ChangeShapes Go.WideShapes Go.ChangeAt Go.RowKit Go.Joins Go.Deep Base
set_option linter.unusedVariables false
set_option linter.unusedSimpArgs false
structure GS {α : Type} [Cel α] (P : World -> α -> (Nat -> Prop) -> Prop) (t : TypeId) (S : Nat -> Prop) (W : World) (a : Option Addr) (cp : Nat) (xs : List α) : Prop where
  own : W.ownsRow 0 t (Cel.k α) (.slice a xs.length cp) xs.length (flat xs)
  ob : ∀ y, (Value.slice a xs.length cp).ownBlock = some y -> S y
  fps : ∃ fp : Nat -> Nat -> Prop, (∀ (i : Nat) (h : i < xs.length), P W xs[i] (fp i)) /\ (∀ i j, i ≠ j -> ∀ x, fp i x -> ¬ fp j x) /\ ∀ i x, fp i x -> i < xs.length /\ S x /\ x < W.heap.size /\ (Value.slice a xs.length cp).ownBlock ≠ some x
section
variable {α : Type} [Cel α] {P : World -> α -> (Nat -> Prop) -> Prop} {t : TypeId} {S : Nat -> Prop} {b B : Nat} {W W1 : World} {a : Option Addr} {cp : Nat} {xs : List α}
theorem GU.gs (h : GU P t b B W a cp xs) : GS P t (fun z => B <= z /\ z < W.heap.size) W a cp xs := by
  obtain ⟨own, ⟨fp, f1, f2, f3⟩, hb, hB⟩ := h
  exact ⟨owns_mono own (Nat.zero_le _), fun y hy => own.lt y hy, fp, f1, f2, fun i x hx => ⟨(f3 i x hx).1, ⟨(f3 i x hx).2.1, (f3 i x hx).2.2.1⟩, (f3 i x hx).2.2⟩⟩
theorem GS.offp (hP : Firm P) (h : GS P t S W a cp xs) {T : Nat -> Prop} (k : Offp T W W1) (hT : ∀ x, S x -> ¬ T x) : GS P t S W1 a cp xs := by
  obtain ⟨own, ob, fp, f1, f2, f3⟩ := h
  exact ⟨owns_offp own k (fun y hy e => hT y (ob y hy) e), ob, fp, fun i hi => hP _ _ _ _ _ (f1 i hi) k (fun y hy e => hT y (f3 i y hy).2.1 e), f2, fun i x hx => ⟨(f3 i x hx).1, (f3 i x hx).2.1, Nat.lt_of_lt_of_le (f3 i x hx).2.2.1 k.size, (f3 i x hx).2.2.2⟩⟩
theorem GS.below (hP : Firm P) (h : GS P t S W a cp xs) (k : Below W.heap.size W W1) : GS P t S W1 a cp xs := h.offp hP (Offp.of_below (S := fun _ => False) k) (fun _ _ e => e)
theorem GS.toOwn (h : GS P t S W a cp xs) : Own P W a xs S := by
  obtain ⟨own, ob, fp, f1, f2, f3⟩ := h
  by_cases h0 : 0 < xs.length
  . obtain ⟨b, h1, h2, h3⟩ := Pl.of_own own h0
    exact .inr ⟨b, 0, fp, h1.a, ob b h3, fun i x hx => (f3 i x hx).2.1, ⟨h1.lt, h1.i, h1.th, f1, f2, fun i hx => (f3 i b hx).2.2.2 h3⟩⟩
  . exact .inl (List.length_eq_zero_iff.1 (by omega))
theorem GS.app (hP : Firm P) {pg : Program} {ts : TypeId} {z : Value} {bytes : Nat} (hu : pg.underlying ts = some (.slice t)) (hinfo : (pg.info? t).map (fun i => (i.zero, i.size, i.bytes)) = some (some z, Cel.k α, bytes)) (hz : z.cells.size = Cel.k α) (hk : 0 < Cel.k α) (hby : bytes <= 1000)
    (h : GS P t S W a cp xs) (hS0 : ∀ y, S y -> y < W.heap.size) (k : Below W.heap.size W W1) (x : α) (hy : P W1 x (fun y => W.heap.size <= y /\ y < W1.heap.size)) (cs : Array Value) (hcs : cs.toList = Cel.cs x) (hx : xs.length <= 2000000) :
    ∃ a2 c2 W2, (Builtin.append_ #[ts, ts] ts #[.slice a xs.length cp, .slice (some ⟨W1.heap.size, 0, none⟩) 1 1]).run pg (W1.alloc (.cells cs t)) = .ok (.slice a2 (xs.length + 1) c2) W2 /\ GS P t (fun y => S y ∨ (W.heap.size <= y /\ y < W2.heap.size)) W2 a2 c2 (xs ++ [x]) /\ Offp S (W1.alloc (.cells cs t)) W2 := by
  have h1 := h.below hP k
  have hws := k.size
  obtain ⟨own0, ob, fq, q1, q2, q3⟩ := h
  obtain ⟨own1', _, _⟩ := h1
  have own1 := owns_alloc own1' (.cells cs t)
  have hX : At (W1.alloc (.cells cs t)) (some ⟨W1.heap.size, 0, none⟩) [x] := by
    refine .inr ⟨_, 0, rfl, by simp, fun j u hu => ?_⟩
    rw [flat_one, ← hcs] at hu
    rw [Nat.zero_add]
    exact (Blk.new W1 t cs).cell (by simpa using hu)
  obtain ⟨v', W2, hr, hown, hgrow, hob⟩ := append_els (P := pg) hu hinfo hz hk hby 0 (.slice a xs.length cp) xs [x] (some ⟨W1.heap.size, 0, none⟩) 1 _ (Nat.zero_le _) own1 hX (by simp; omega)
  simp only [List.length_cons, List.length_nil, Nat.zero_add] at hown hr
  obtain ⟨a2, c2, rfl, _⟩ := owns_form hown
  have ko := offp_grown hgrow
  have hs2 : W1.heap.size + 1 <= W2.heap.size := by have := ko.size; simpa using this
  have kb : Offp (fun _ => False) W1 (W1.alloc (.cells cs t)) := Offp.of_below (alloc0 (Below.refl _ _) _)
  have hob' : ∀ y, (Value.slice a2 (xs ++ [x]).length c2).ownBlock = some y -> (Value.slice a xs.length cp).ownBlock = some y ∨ (y = W1.heap.size + 1 /\ y < W2.heap.size) := by
    intro y e
    rw [List.length_append] at e
    have e2 : (Value.slice a2 (xs.length + 1) c2).ownBlock = some y := e
    have hlt := (hown.lt y e2).2
    rcases hob with h' | h'
    . exact .inl (h' ▸ e2)
    . rw [h'] at e2
      simp only [World.size_alloc, Option.some.injEq] at e2
      exact .inr ⟨e2.symm, hlt⟩
  refine ⟨a2, c2, W2, hr, ⟨by rw [List.length_append]; exact hown, fun y hy' => ?_, fun i => if i = xs.length then (fun y => W.heap.size <= y /\ y < W1.heap.size) else fq i, ?_, ?_, ?_⟩, ko.mono (fun y e => ob y e)⟩
  . rcases hob' y hy' with e | e
    . exact .inl (ob y e)
    . exact .inr ⟨by omega, by omega⟩
  . intro i hi
    by_cases e : i = xs.length
    . subst e
      simp only [if_true]
      rw [List.getElem_append_right (Nat.le_refl _)]
      simp only [Nat.sub_self, List.getElem_cons_zero]
      exact hP _ _ _ _ _ (hP _ _ _ _ _ hy kb (fun _ _ e => e)) ko (fun y hy e => by have := hS0 y (ob y e); omega)
    . have hi' : i < xs.length := by simp at hi; omega
      simp only [if_neg e]
      rw [List.getElem_append_left hi']
      exact hP _ _ _ _ _ (hP _ _ _ _ _ (hP _ _ _ _ _ (q1 i hi') (Offp.of_below (S := fun _ => False) k) (fun _ _ e => e)) kb (fun _ _ e => e)) ko (fun y hy e => (q3 i y hy).2.2.2 e)
  . intro i j hij y hy' hy2
    by_cases e1 : i = xs.length
    . by_cases e2 : j = xs.length
      . omega
      . simp only [if_pos e1] at hy'
        simp only [if_neg e2] at hy2
        have := (q3 j y hy2).2.2.1
        omega
    . by_cases e2 : j = xs.length
      . simp only [if_neg e1] at hy'
        simp only [if_pos e2] at hy2
        have := (q3 i y hy').2.2.1
        omega
      . simp only [if_neg e1] at hy'
        simp only [if_neg e2] at hy2
        exact q2 i j hij y hy' hy2
  . intro i y hy'
    by_cases e1 : i = xs.length
    . simp only [if_pos e1] at hy'
      refine ⟨by simp; omega, .inr ⟨hy'.1, by omega⟩, by omega, fun e => ?_⟩
      rcases hob' y e with e | e
      . have := hS0 y (ob y e); omega
      . omega
    . simp only [if_neg e1] at hy'
      have hh := q3 i y hy'
      refine ⟨by simp; omega, .inl hh.2.1, by omega, fun e => ?_⟩
      rcases hob' y e with e | e
      . exact hh.2.2.2 e
      . omega
end
end Go.Proofs.YtengolneibbdfaaGreat.Gen

/-
  For the specification's copy of a keeper: its box and what is made of it, list by list. No condition.
-/
namespace Go.Proofs.YtengolneibbdfaaGreat.Gen
open Go.ChangeShapes Go.WideShapes Go.ChangeAt Go.RowKit Go.Joins Go.Deep Base
set_option linter.unusedVariables false
set_option linter.unusedSimpArgs false
structure Kd (w W : World) (kc : Array Value) : Prop where
  bl : Below w.heap.size w W
  k : Blk W w.heap.size 55 kc
  r : Blk W (w.heap.size + 1) 55 #[.slice none 0 0, .slice none 0 0, .slice none 0 0, .int .i64 0, .slice none 0 0, .slice none 0 0]
theorem Kd.below {w W W' : World} {kc : Array Value} (h : Kd w W kc) (g : Below W.heap.size W W') : Kd w W' kc := ⟨via0 g h.bl, h.k.below g h.k.lt, h.r.below g h.r.lt⟩
theorem Kd.alloc {w W : World} {kc : Array Value} (h : Kd w W kc) (ob : Obj) : Kd w (W.alloc ob) kc := h.below (alloc0 (Below.refl _ _) _)
theorem Kd.kept {w W W' : World} {kc : Array Value} (h : Kd w W kc) (k : ∀ p vs, Blk W p 55 vs -> Blk W' p 55 vs) (hb : Below (w.heap.size + 2) W W') : Kd w W' kc :=
  ⟨h.bl.trans ⟨hb.os, hb.tape, hb.output, hb.size, fun i hi => hb.block i (by omega)⟩, k _ _ h.k, k _ _ h.r⟩
theorem Kd.offp {w W W' : World} {kc : Array Value} {T : Nat -> Prop} (h : Kd w W kc) (k : Offp T W W') (hp : ∀ x, T x -> w.heap.size + 1 < x) : Kd w W' kc :=
  ⟨h.bl.trans (k.toBelow (fun x hx => by have := hp x hx; omega) h.bl.size), h.k.offp k (fun e => by have := hp _ e; omega), h.r.offp k (fun e => by have := hp _ e; omega)⟩
structure Du (q : Nat) (W : World) (v1 v2 : Value) (l1 : List Int) (l2 : List An) : Prop where
  o1 : W.ownsRow q 3 1 v1 l1.length (flat l1)
  o2 : W.ownsRow q 142 4 v2 l2.length (flat l2)
  q : q <= W.heap.size
section
variable {q : Nat} {W : World} {v1 v2 : Value} {l1 : List Int} {l2 : List An}
theorem Du.nil (q : Nat) (W : World) (hq : q <= W.heap.size) : Du q W (.slice none 0 0) (.slice none 0 0) [] [] := ⟨World.ownsRow_nil _ _ _ _, World.ownsRow_nil _ _ _ _, hq⟩
theorem Du.alloc (h : Du q W v1 v2 l1 l2) (ob : Obj) : Du q (W.alloc ob) v1 v2 l1 l2 := ⟨owns_alloc h.o1 _, owns_alloc h.o2 _, by have := h.q; simp; omega⟩
theorem Du.new1 {g : Nat} (h : Du q W (.slice none 0 0) v2 [] l2) (hg : W.heap.size = g) : Du q (W.alloc (.cells #[] 3)) (.slice (some ⟨g, 0, none⟩) 0 0) v2 [] l2 := by
  subst hg
  exact ⟨owns_mono (World.ownsRow_made W #[] 0 (Nat.le_refl _) (by simp [maxLen]) rfl) h.q, owns_alloc h.o2 _, by have := h.q; simp; omega⟩
theorem Du.new2 {g : Nat} (h : Du q W v1 (.slice none 0 0) l1 []) (hg : W.heap.size = g) : Du q (W.alloc (.cells #[] 142)) v1 (.slice (some ⟨g, 0, none⟩) 0 0) l1 [] := by
  subst hg
  exact ⟨owns_alloc h.o1 _, owns_mono (World.ownsRow_made W #[] 0 (Nat.le_refl _) (by simp [maxLen]) rfl) h.q, by have := h.q; simp; omega⟩
theorem Du.out {g : Nat} (h : Du q W v1 v2 l1 l2) (hg : W.heap.size = g) : Blk (W.alloc (.cells #[.slice none 0 0, .slice none 0 0, .slice none 0 0, .int .i64 0, .slice none 0 0, .slice none 0 0] 55)) g 55 #[.slice none 0 0, .slice none 0 0, .slice none 0 0, .int .i64 0, .slice none 0 0, .slice none 0 0] := by subst hg; exact Blk.new W _ _
theorem Du.app1 {A : Option Addr} {cap : Nat} {m : List Int} (h : Du q W v1 v2 [] l2) (hA : At W A m) (hm : m.length <= 1048576) :
    ∃ a c w', (Builtin.append_ #[30, 30] 30 #[v1, .slice A m.length cap]).run Tryz.prog W = .ok (.slice a m.length c) w' /\ Du q w' (.slice a m.length c) v2 m l2 /\ (∀ p vs, Blk W p 55 vs -> Blk w' p 55 vs) /\ Below q W w' := by
  obtain ⟨v, w1, hr, hown, hgrow, hat⟩ := append_els (P := Tryz.prog) Tryz.underlying30 infoInt rfl (by decide) (by decide) q v1 ([] : List Int) m A cap W h.q h.o1 hA (by simp; omega)
  simp only [List.length_nil, Nat.zero_add, List.nil_append] at hown
  obtain ⟨a, c, rfl, _⟩ := owns_form hown
  refine ⟨a, c, w1, hr, ⟨hown, owns_grown h.o2 hgrow (fun x hx e => ?_), Nat.le_trans h.q hgrow.size⟩, fun p vs hp => hp.kept hgrow (fun e => owns_ne h.o1 hp (by decide) p e.symm rfl), (Below.refl _ W).grown hgrow h.q (fun k e => (h.o1.lt k e).1)⟩
  rcases h.o2.2 with ⟨rfl, _⟩ | ⟨g, c', cur, rfl, _, hg, _⟩
  . cases hx
  . have e1 : g = x := by simpa [Value.ownBlock] using hx
    subst e1
    exact owns_ne h.o1 (show Blk W g 142 cur from hg) (by decide) g e.symm rfl
theorem Du.app2 {A : Option Addr} {cap : Nat} {m : List An} (h : Du q W v1 v2 l1 []) (hA : At W A m) (hm : m.length <= 1048576) :
    ∃ a c w', (Builtin.append_ #[53, 53] 53 #[v2, .slice A m.length cap]).run Tryz.prog W = .ok (.slice a m.length c) w' /\ Du q w' v1 (.slice a m.length c) l1 m /\ (∀ p vs, Blk W p 55 vs -> Blk w' p 55 vs) /\ Below q W w' := by
  obtain ⟨v, w1, hr, hown, hgrow, hat⟩ := append_els (P := Tryz.prog) Tryz.underlying53 infoAn rfl (by decide) (by decide) q v2 ([] : List An) m A cap W h.q h.o2 hA (by simp; omega)
  simp only [List.length_nil, Nat.zero_add, List.nil_append] at hown
  obtain ⟨a, c, rfl, _⟩ := owns_form hown
  refine ⟨a, c, w1, hr, ⟨owns_grown h.o1 hgrow (fun x hx e => ?_), hown, Nat.le_trans h.q hgrow.size⟩, fun p vs hp => hp.kept hgrow (fun e => owns_ne h.o2 hp (by decide) p e.symm rfl), (Below.refl _ W).grown hgrow h.q (fun k e => (h.o2.lt k e).1)⟩
  rcases h.o1.2 with ⟨rfl, _⟩ | ⟨g, c', cur, rfl, _, hg, _⟩
  . cases hx
  . have e1 : g = x := by simpa [Value.ownBlock] using hx
    subst e1
    exact owns_ne h.o2 (show Blk W g 3 cur from hg) (by decide) g e.symm rfl
end
abbrev putK (Y : World) (p : Nat) (v0 v1 v2 v3 v4 v5 : Value) : World := (((((Y.setCell ⟨p, 0, none⟩ v0).setCell ⟨p, 1, none⟩ v1).setCell ⟨p, 2, none⟩ v2).setCell ⟨p, 3, none⟩ v3).setCell ⟨p, 4, none⟩ v4).setCell ⟨p, 5, none⟩ v5
theorem only_putK (Y : World) (p : Nat) (v0 v1 v2 v3 v4 v5 : Value) : Only p Y (putK Y p v0 v1 v2 v3 v4 v5) := (((((((Only.refl p Y).set 0 v0).set 1 v1).set 2 v2).set 3 v3).set 4 v4).set 5 v5)
theorem blk_putK {Y : World} {p : Nat} {t : TypeId} {x0 x1 x2 x3 x4 x5 : Value} (h : Blk Y p t #[x0, x1, x2, x3, x4, x5]) (v0 v1 v2 v3 v4 v5 : Value) : Blk (putK Y p v0 v1 v2 v3 v4 v5) p t #[v0, v1, v2, v3, v4, v5] := (((((h.setAt 0 v0).setAt 1 v1).setAt 2 v2).setAt 3 v3).setAt 4 v4).setAt 5 v5
theorem putK_cells {W : World} {p : Nat} {t : TypeId} {x0 x1 x2 x3 x4 x5 : Value} (h : Blk W p t #[x0, x1, x2, x3, x4, x5]) (v0 v1 v2 v3 v4 v5 : Value) :
    (W.setCell ⟨p, 0, none⟩ v0).cell? ⟨p, 0, none⟩ = some v0 /\ ((W.setCell ⟨p, 0, none⟩ v0).setCell ⟨p, 1, none⟩ v1).cell? ⟨p, 1, none⟩ = some v1 /\ (((W.setCell ⟨p, 0, none⟩ v0).setCell ⟨p, 1, none⟩ v1).setCell ⟨p, 2, none⟩ v2).cell? ⟨p, 2, none⟩ = some v2 /\
      ((((W.setCell ⟨p, 0, none⟩ v0).setCell ⟨p, 1, none⟩ v1).setCell ⟨p, 2, none⟩ v2).setCell ⟨p, 3, none⟩ v3).cell? ⟨p, 3, none⟩ = some v3 /\ (((((W.setCell ⟨p, 0, none⟩ v0).setCell ⟨p, 1, none⟩ v1).setCell ⟨p, 2, none⟩ v2).setCell ⟨p, 3, none⟩ v3).setCell ⟨p, 4, none⟩ v4).cell? ⟨p, 4, none⟩ = some v4 /\
      (putK W p v0 v1 v2 v3 v4 v5).cell? ⟨p, 5, none⟩ = some v5 :=
  ⟨(h.setAt 0 v0).cell (by rfl), ((h.setAt 0 v0).setAt 1 v1).cell (by rfl), (((h.setAt 0 v0).setAt 1 v1).setAt 2 v2).cell (by rfl), ((((h.setAt 0 v0).setAt 1 v1).setAt 2 v2).setAt 3 v3).cell (by rfl), (((((h.setAt 0 v0).setAt 1 v1).setAt 2 v2).setAt 3 v3).setAt 4 v4).cell (by rfl), (blk_putK h v0 v1 v2 v3 v4 v5).cell (by rfl)⟩
structure KP {α : Type} [Cel α] (Pr : World -> α -> (Nat -> Prop) -> Prop) (t : TypeId) (Pk : World -> Prop) (B : Nat) (w W : World) (kc : Array Value) (P : Nat) (vs : Array Value) (a : Option Addr) (cp : Nat) (xs : List α) : Prop where
  kd : Kd w W kc
  box : Blk W P 55 vs
  hp : w.heap.size + 1 < P
  pb : P < B
  gu : GU Pr t B B W a cp xs
  pk : Pk W
  stay : Stay2 P B Pk
section
variable {α : Type} [Cel α] {Pr : World -> α -> (Nat -> Prop) -> Prop} {t : TypeId} {Pk : World -> Prop} {B : Nat} {w W W1 : World} {kc vs : Array Value} {P : Nat} {a : Option Addr} {cp : Nat} {xs : List α}
theorem KP.drew (hP : Firm Pr) (h : KP Pr t Pk B w W kc P vs a cp xs) : KP Pr t Pk B w W.drew kc P vs a cp xs :=
  ⟨h.kd.below (Below.refl _ _).drew, h.box.drew, h.hp, h.pb, h.gu.offp hP (Offp.of_below (S := fun _ => False) (Below.refl _ _).drew) (fun _ e => e.elim), h.stay _ _ (fun _ => False) h.pk (Offp.of_below (Below.refl _ _).drew) (fun _ e => e.elim), h.stay⟩
theorem KP.below (hP : Firm Pr) (h : KP Pr t Pk B w W kc P vs a cp xs) (k : Below W.heap.size W W1) : KP Pr t Pk B w W1 kc P vs a cp xs :=
  ⟨h.kd.below k, h.box.below k h.box.lt, h.hp, h.pb, h.gu.offp hP (Offp.of_below (S := fun _ => False) k) (fun _ e => e.elim), h.stay _ _ (fun _ => False) h.pk (Offp.of_below k) (fun _ e => e.elim), h.stay⟩
theorem KP.round (hP : Firm Pr) {pg : Program} {ts : TypeId} {z : Value} {bytes : Nat} (hu : pg.underlying ts = some (.slice t)) (hinfo : (pg.info? t).map (fun i => (i.zero, i.size, i.bytes)) = some (some z, Cel.k α, bytes)) (hz : z.cells.size = Cel.k α) (hk : 0 < Cel.k α) (hby : bytes <= 1000)
    (h : KP Pr t Pk B w W kc P vs a cp xs) (k : Below W.heap.size W W1) (x : α) (hy : Pr W1 x (fun b => W.heap.size <= b /\ b < W1.heap.size)) (cs : Array Value) (hcs : cs.toList = Cel.cs x) (hx : xs.length <= 2000000) (f : Nat) :
    ∃ a2 c2 W2, (Builtin.append_ #[ts, ts] ts #[.slice a xs.length cp, .slice (some ⟨W1.heap.size, 0, none⟩) 1 1]).run pg (W1.alloc (.cells cs t)) = .ok (.slice a2 (xs.length + 1) c2) W2 /\ Blk W2 P 55 vs /\ Kd w W2 kc /\
      KP Pr t Pk B w (W2.setCell ⟨P, f, none⟩ (.slice a2 (xs.length + 1) c2)) kc P (vs.setIfInBounds f (.slice a2 (xs.length + 1) c2)) a2 c2 (xs ++ [x]) := by
  have h1 := h.below hP k
  have hPl := h.pb
  obtain ⟨a2, c2, W2, hr, hg, ko⟩ := h.gu.app hP hu hinfo hz hk hby (Offp.of_below (S := fun _ => False) k) (fun _ e => e.elim) x hy (fun y hy => hy) cs hcs hx
  have kb := alloc0 (Below.refl _ W1) (.cells cs t)
  have h2 := h1.kd.below kb
  have b2 : Blk W2 P 55 vs := (h1.box.below kb h1.box.lt).offp ko (by omega)
  have d2 : Kd w W2 kc := h2.offp ko (fun x hx => by have := h.hp; omega)
  have kc' := Offp.of_only ((Only.refl P W2).set f (.slice a2 (xs.length + 1) c2))
  refine ⟨a2, c2, W2, hr, b2, d2, ⟨d2.offp kc' (fun x hx => by subst hx; exact h.hp), b2.setAt f _, h.hp, h.pb, hg.offp hP kc' (fun y e => by subst e; exact h.pb), ?_, h.stay⟩⟩
  exact h.stay _ _ _ (h.stay _ _ _ (h.stay _ _ _ h1.pk (Offp.of_below (S := fun _ => False) kb) (fun _ e => e.elim)) ko (fun y e => .inr e)) kc' (fun y e => .inl e)
theorem KP.next {β : Type} [Cel β] {Q : World -> β -> (Nat -> Prop) -> Prop} {u : TypeId} (hP : Firm Pr) (h : KP Pr t Pk B w W kc P vs a cp xs) : KP (α := β) Q u (fun V => Pk V /\ Own Pr V a xs (fun b => B <= b /\ b < W.heap.size)) W.heap.size w W kc P vs none 0 [] := by
  have hB := h.gu.hB
  refine ⟨h.kd, h.box, h.hp, by have := h.pb; omega, GU.start (Nat.le_refl _) (Nat.le_refl _), ⟨h.pk, h.gu.toOwn⟩, ?_⟩
  rintro V V' T ⟨p1, p2⟩ k hT
  refine ⟨h.stay _ _ _ p1 k (fun x hx => (hT x hx).imp id (fun e => by omega)), p2.offp hP k (fun x hx e => ?_)⟩
  rcases hT x e with e1 | e1
  . have := h.pb; omega
  . omega
end
end Go.Proofs.YtengolneibbdfaaGreat.Gen

/-
  A keeper that a law is handed: its size told, made anew in memory of its own, and opened. No condition but the length that every list and text has.
-/
namespace Go.Proofs.YtengolneibbdfaaGreat.Gen
open Go.ChangeShapes Go.WideShapes Go.ChangeAt Go.RowKit Go.Joins Go.Deep Base
set_option linter.unusedVariables false
set_option linter.unusedSimpArgs false
structure KRight (x : KC) : Prop where
  rl : x.rs.length <= 9223372036854775807
  ml : x.ms.length <= 9223372036854775807
  gl : x.gs.length <= 9223372036854775807
  dl : x.ds.length <= 9223372036854775807
  ll : x.ls.length <= 9223372036854775807
  rr : ∀ y ∈ x.rs, y.right
  mr : ∀ y ∈ x.ms, y.right
  gr : ∀ y ∈ x.gs, y.right
  dr : ∀ y ∈ x.ds, I64 y
  lr : ∀ y ∈ x.ls, y.right
  t : I64 x.time
theorem count_lin {α : Type} (c s : α -> Nat) (p q : Nat) : ∀ (l : List α), (∀ y ∈ l, c y <= p + q * s y) -> count c l <= p * l.length + q * count s l
  | [], _ => by simp [count]
  | a :: l, h => by
    have h1 := count_lin c s p q l (fun y hy => h y (by simp [hy]))
    have h2 := h a (by simp)
    simp only [count, List.map_cons, List.sum_cons, List.length_cons, Nat.mul_add] at h1 ⊢
    omega
theorem fit_of {x : KC} (h : x.rs.length + count szRC x.rs + szM x.ms + x.gs.length + count szGC x.gs + x.ds.length + x.ls.length + count szAn x.ls <= 1048576) : KFit x := by
  have hm : szM x.ms = x.ms.length + count (fun y : MC => y.ms.length) x.ms := rfl
  have c1 := count_lin cR szRC 2 5 x.rs (fun y _ => by simp only [cR, szRC]; omega)
  have c2 := count_lin cM (fun y : MC => y.ms.length) 4 2 x.ms (fun y _ => by simp only [cM]; omega)
  have c3 := count_lin cG szGC 1 1 x.gs (fun y _ => by simp only [cG, szGC]; omega)
  refine ⟨by omega, by omega, by omega, by omega, by omega, fun y hy => ?_, fun y hy => ?_, fun y hy => ?_, by omega, by omega, by omega⟩
  . have h9 := count_mem szRC x.rs y hy; simp only [szRC] at h9; omega
  . have h9 : y.ms.length <= count (fun y : MC => y.ms.length) x.ms := count_mem (fun y : MC => y.ms.length) x.ms y hy; omega
  . have h9 := count_mem szGC x.gs y hy; simp only [szGC] at h9; omega
theorem kct_of (x : KC) : (kct x : Int) <= 5 * ((x.rs.length : Int) + (count szRC x.rs : Int)) + 4 * ((x.ms.length : Int) + (count (fun y : MC => y.ms.length) x.ms : Int)) + ((x.gs.length : Int) + (count szGC x.gs : Int)) + (x.ds.length : Int) + 4 * (x.ls.length : Int) := by
  have c1 := count_lin cR szRC 2 5 x.rs (fun y _ => by simp only [cR, szRC]; omega)
  have c2 := count_lin cM (fun y : MC => y.ms.length) 4 2 x.ms (fun y _ => by simp only [cM]; omega)
  have c3 := count_lin cG szGC 1 1 x.gs (fun y _ => by simp only [cG, szGC]; omega)
  unfold kct
  omega
set_option maxRecDepth 100000 in
set_option maxHeartbeats 1000000 in
theorem szKeep_tot (x : KC) (hr : KRight x) (left : Int) (k0 : 0 <= left) (k1 : left <= 1048576) (w : World) (hx : KAt w x) :
    Calls Tryz.prog 22 #[.agg #[.slice x.rA x.rs.length x.rc, .slice x.mA x.ms.length x.mc, .slice x.gA x.gs.length x.gc, .int .i64 x.time, .slice x.dA x.ds.length x.dc, .slice x.lA x.ls.length x.lc], .int .i64 left] w fun e w' => (∃ r : Int, e = .returned (.int .i64 r) /\ (r < 0 ∨ (0 <= r /\ r <= left /\ KFit x /\ (kct x : Int) <= 5 * (left - r)))) /\ Below w.heap.size w w' := by
  have HX := hidP hx
  have Hr := hidP hr
  clear hx hr
  have p0 : Blk (w.alloc (.cells #[.slice x.rA x.rs.length x.rc, .slice x.mA x.ms.length x.mc, .slice x.gA x.gs.length x.gc, .int .i64 x.time, .slice x.dA x.ds.length x.dc, .slice x.lA x.ls.length x.lc] 33)) w.heap.size 33 #[.slice x.rA x.rs.length x.rc, .slice x.mA x.ms.length x.mc, .slice x.gA x.gs.length x.gc, .int .i64 x.time, .slice x.dA x.ds.length x.dc, .slice x.lA x.ls.length x.lc] := Blk.new w _ _
  have B0 : Below w.heap.size w (w.alloc (.cells #[.slice x.rA x.rs.length x.rc, .slice x.mA x.ms.length x.mc, .slice x.gA x.gs.length x.gc, .int .i64 x.time, .slice x.dA x.ds.length x.dc, .slice x.lA x.ls.length x.lc] 33)) := alloc0 (Below.refl _ _) _
  go_enter Tryz.func22, Tryz.ntmps22
  go_wp2_with fail
  refine (szRowS_any _ _ x.rs Hr.out.rl Hr.out.rr left k0 k1 _ (HX.out.below B0).ra (HX.out.below B0).re).mono ?_
  rintro e w1 ⟨⟨z1, rfl, hz⟩, g⟩
  have p1 := p0.below g p0.lt
  have B1 := via0 g B0
  clear p0 B0 g
  obtain ⟨u0, u1, u2, u3, u4, u5⟩ := p1.row6
  rcases hz with hz | ⟨hz, hz1⟩
  . go_wp2
    go_ret
    exact ⟨⟨-1, rfl, .inl (by omega)⟩, B1⟩
  have n1 : ¬ z1 < 0 := by omega
  have Hz1 := hidP hz1
  have b1 : z1 <= 1048576 := by omega
  clear hz1
  go_wp2_with fail
  refine (szMakerS_any _ _ x.ms Hr.out.ml (fun y hy => (Hr.out.mr y hy).2.2.2.2.1) z1 hz b1 _ (HX.out.below B1).ma).mono ?_
  rintro e w2 ⟨⟨z2, rfl, hz⟩, g⟩
  have p2 := p1.below g p1.lt
  have B2 := via0 g B1
  clear p1 B1 g u0 u1 u2 u3 u4 u5
  obtain ⟨u0, u1, u2, u3, u4, u5⟩ := p2.row6
  rcases hz with hz | ⟨hz, hz2⟩
  . go_wp2
    go_ret
    exact ⟨⟨-1, rfl, .inl (by omega)⟩, B2⟩
  have n2 : ¬ z2 < 0 := by omega
  have Hz2 := hidP hz2
  have b2 : z2 <= 1048576 := by omega
  clear hz2 n1 b1
  go_wp2_with fail
  refine (szGroupS_any _ _ x.gs Hr.out.gl Hr.out.gr z2 hz b2 _ (HX.out.below B2).ga (HX.out.below B2).ge).mono ?_
  rintro e w3 ⟨⟨z3, rfl, hz⟩, g⟩
  have p3 := p2.below g p2.lt
  have B3 := via0 g B2
  clear p2 B2 g u0 u1 u2 u3 u4 u5
  obtain ⟨u0, u1, u2, u3, u4, u5⟩ := p3.row6
  rcases hz with hz | ⟨hz, hz3⟩
  . go_wp2
    go_ret
    exact ⟨⟨-1, rfl, .inl (by omega)⟩, B3⟩
  have n3 : ¬ z3 < 0 := by omega
  have Hz3 := hidP hz3
  have b3 : z3 <= 1048576 := by omega
  clear hz3 n2 b2
  obtain ⟨z4, hz4⟩ : ∃ z : Int, z = (if z3 < (x.ds.length : Int) then -1 else z3 - (x.ds.length : Int)) := ⟨_, rfl⟩
  have S4 : Hid (∀ W : World, Calls Tryz.prog 21 #[.slice x.dA x.ds.length x.dc, .int .i64 z3] W fun e w' => e = .returned (.int .i64 z4) /\ w' = W) := fun W => by
    refine (szInt_any x.dA x.ds.length x.dc Hr.out.dl z3 hz b3 W).mono ?_
    rw [← hz4]
    exact fun e w' h => h
  have Hz4 := hidP hz4
  clear hz4
  go_wp2_with fail
  refine (S4.out _).mono ?_
  rintro e w4 ⟨rfl, rfl⟩
  by_cases k4 : z4 < 0
  . go_wp2
    go_ret
    exact ⟨⟨-1, rfl, .inl (by omega)⟩, B3⟩
  have e4 : Hid (z4 = z3 - (x.ds.length : Int)) := by
    have h := Hz4.out
    split at h
    . omega
    . exact h
  have b4 : z4 <= 1048576 := by have := e4.out; omega
  clear Hz4 n3 b3
  go_wp2_with fail
  refine (szAnswerS_any _ _ x.ls Hr.out.ll (fun y hy => (Hr.out.lr y hy).2.2) z4 (by omega) b4 _ (HX.out.below B3).la).mono ?_
  rintro e w5 ⟨⟨z5, rfl, hz⟩, g⟩
  have B5 := via0 g B3
  clear p3 B3 g u0 u1 u2 u3 u4 u5
  rcases hz with hz | ⟨hz, hz5⟩
  . go_wp2
    go_ret
    exact ⟨⟨-1, rfl, .inl (by omega)⟩, B5⟩
  have n5 : ¬ z5 < 0 := by omega
  have Hz5 := hidP hz5
  clear hz5
  go_wp2
  go_ret
  have hle : z5 <= left := by
    have h1 := Hz1.out
    have h2 := Hz2.out
    have h3 := Hz3.out
    have h4 := e4.out
    have h5 := Hz5.out
    omega
  refine ⟨⟨z5, rfl, .inr ⟨hz, hle, fit_of ?_, ?_⟩⟩, B5⟩
  rotate_left
  . have h1 := Hz1.out
    have h2 := Hz2.out
    have h3 := Hz3.out
    have h4 := e4.out
    have h5 := Hz5.out
    have c := kct_of x
    have hm : szM x.ms = x.ms.length + count (fun y : MC => y.ms.length) x.ms := rfl
    omega
  have h1 := Hz1.out
  have h2 := Hz2.out
  have h3 := Hz3.out
  have h4 := e4.out
  have h5 := Hz5.out
  omega
def NewK (w w' : World) (e : Ending) (c : PK) : Prop := ∃ y : KC, e = .returned (.agg y.cells) /\ y.p = c /\ KOwn w' y (fun b => w.heap.size <= b /\ b < w'.heap.size) /\ Below w.heap.size w w'
set_option maxRecDepth 100000 in
set_option maxHeartbeats 2000000 in
theorem toKeep_any (x : KC) (hf : KFit x) (w : World) (hx : KAt w x) :
    Calls Tryz.prog 34 #[.agg #[.slice x.rA x.rs.length x.rc, .slice x.mA x.ms.length x.mc, .slice x.gA x.gs.length x.gc, .int .i64 x.time, .slice x.dA x.ds.length x.dc, .slice x.lA x.ls.length x.lc]] w fun e w' => NewK w w' e x.p := by
  have HX := hidP hx
  have Hf := hidP hf
  clear hx hf
  have B : Below w.heap.size w (((w.alloc (.cells #[.slice x.rA x.rs.length x.rc, .slice x.mA x.ms.length x.mc, .slice x.gA x.gs.length x.gc, .int .i64 x.time, .slice x.dA x.ds.length x.dc, .slice x.lA x.ls.length x.lc] 33)).alloc (.cells #[.slice none 0 0, .slice none 0 0, .slice none 0 0, .int .i64 0, .slice none 0 0, .slice none 0 0] 55)).alloc (.cells #[.slice none 0 0, .slice none 0 0, .slice none 0 0, .int .i64 0, .slice none 0 0, .slice none 0 0] 55)) := by repeat (first | exact Below.refl _ _ | assumption | refine via0 (by assumption) ?_ | refine Below.drew ?_ | refine alloc0 ?_ _)
  have P1 : Blk (((w.alloc (.cells #[.slice x.rA x.rs.length x.rc, .slice x.mA x.ms.length x.mc, .slice x.gA x.gs.length x.gc, .int .i64 x.time, .slice x.dA x.ds.length x.dc, .slice x.lA x.ls.length x.lc] 33)).alloc (.cells #[.slice none 0 0, .slice none 0 0, .slice none 0 0, .int .i64 0, .slice none 0 0, .slice none 0 0] 55)).alloc (.cells #[.slice none 0 0, .slice none 0 0, .slice none 0 0, .int .i64 0, .slice none 0 0, .slice none 0 0] 55)) w.heap.size 33 #[.slice x.rA x.rs.length x.rc, .slice x.mA x.ms.length x.mc, .slice x.gA x.gs.length x.gc, .int .i64 x.time, .slice x.dA x.ds.length x.dc, .slice x.lA x.ls.length x.lc] := ((Blk.new w _ _).alloc _).alloc _
  have P2 : Blk (((w.alloc (.cells #[.slice x.rA x.rs.length x.rc, .slice x.mA x.ms.length x.mc, .slice x.gA x.gs.length x.gc, .int .i64 x.time, .slice x.dA x.ds.length x.dc, .slice x.lA x.ls.length x.lc] 33)).alloc (.cells #[.slice none 0 0, .slice none 0 0, .slice none 0 0, .int .i64 0, .slice none 0 0, .slice none 0 0] 55)).alloc (.cells #[.slice none 0 0, .slice none 0 0, .slice none 0 0, .int .i64 0, .slice none 0 0, .slice none 0 0] 55)) (w.heap.size + 1) 55 #[.slice none 0 0, .slice none 0 0, .slice none 0 0, .int .i64 0, .slice none 0 0, .slice none 0 0] := by have := (Blk.new (w.alloc (.cells #[.slice x.rA x.rs.length x.rc, .slice x.mA x.ms.length x.mc, .slice x.gA x.gs.length x.gc, .int .i64 x.time, .slice x.dA x.ds.length x.dc, .slice x.lA x.ls.length x.lc] 33)) 55 #[.slice none 0 0, .slice none 0 0, .slice none 0 0, .int .i64 0, .slice none 0 0, .slice none 0 0]).alloc (.cells #[.slice none 0 0, .slice none 0 0, .slice none 0 0, .int .i64 0, .slice none 0 0, .slice none 0 0] 55); rwa [World.size_alloc] at this
  have P3 : Blk (((w.alloc (.cells #[.slice x.rA x.rs.length x.rc, .slice x.mA x.ms.length x.mc, .slice x.gA x.gs.length x.gc, .int .i64 x.time, .slice x.dA x.ds.length x.dc, .slice x.lA x.ls.length x.lc] 33)).alloc (.cells #[.slice none 0 0, .slice none 0 0, .slice none 0 0, .int .i64 0, .slice none 0 0, .slice none 0 0] 55)).alloc (.cells #[.slice none 0 0, .slice none 0 0, .slice none 0 0, .int .i64 0, .slice none 0 0, .slice none 0 0] 55)) (w.heap.size + 1 + 1) 55 #[.slice none 0 0, .slice none 0 0, .slice none 0 0, .int .i64 0, .slice none 0 0, .slice none 0 0] := by have := Blk.new ((w.alloc (.cells #[.slice x.rA x.rs.length x.rc, .slice x.mA x.ms.length x.mc, .slice x.gA x.gs.length x.gc, .int .i64 x.time, .slice x.dA x.ds.length x.dc, .slice x.lA x.ls.length x.lc] 33)).alloc (.cells #[.slice none 0 0, .slice none 0 0, .slice none 0 0, .int .i64 0, .slice none 0 0, .slice none 0 0] 55)) 55 #[.slice none 0 0, .slice none 0 0, .slice none 0 0, .int .i64 0, .slice none 0 0, .slice none 0 0]; rwa [World.size_alloc, World.size_alloc] at this
  have z0 : w.heap.size + 1 + 1 < (((w.alloc (.cells #[.slice x.rA x.rs.length x.rc, .slice x.mA x.ms.length x.mc, .slice x.gA x.gs.length x.gc, .int .i64 x.time, .slice x.dA x.ds.length x.dc, .slice x.lA x.ls.length x.lc] 33)).alloc (.cells #[.slice none 0 0, .slice none 0 0, .slice none 0 0, .int .i64 0, .slice none 0 0, .slice none 0 0] 55)).alloc (.cells #[.slice none 0 0, .slice none 0 0, .slice none 0 0, .int .i64 0, .slice none 0 0, .slice none 0 0] 55)).heap.size := P3.lt
  go_enter Tryz.func34, Tryz.ntmps34
  obtain ⟨s0, hs0⟩ : ∃ s, (((w.alloc (.cells #[.slice x.rA x.rs.length x.rc, .slice x.mA x.ms.length x.mc, .slice x.gA x.gs.length x.gc, .int .i64 x.time, .slice x.dA x.ds.length x.dc, .slice x.lA x.ls.length x.lc] 33)).alloc (.cells #[.slice none 0 0, .slice none 0 0, .slice none 0 0, .int .i64 0, .slice none 0 0, .slice none 0 0] 55)).alloc (.cells #[.slice none 0 0, .slice none 0 0, .slice none 0 0, .int .i64 0, .slice none 0 0, .slice none 0 0] 55)).heap.size = s := ⟨_, rfl⟩
  have C : Hid (Calls Tryz.prog 80 #[.slice x.rA x.rs.length x.rc] (((w.alloc (.cells #[.slice x.rA x.rs.length x.rc, .slice x.mA x.ms.length x.mc, .slice x.gA x.gs.length x.gc, .int .i64 x.time, .slice x.dA x.ds.length x.dc, .slice x.lA x.ls.length x.lc] 33)).alloc (.cells #[.slice none 0 0, .slice none 0 0, .slice none 0 0, .int .i64 0, .slice none 0 0, .slice none 0 0] 55)).alloc (.cells #[.slice none 0 0, .slice none 0 0, .slice none 0 0, .int .i64 0, .slice none 0 0, .slice none 0 0] 55)) fun e w' => e = .returned (.slice (some ⟨s0, 0, none⟩) x.rs.length x.rs.length) /\ Below s0 (((w.alloc (.cells #[.slice x.rA x.rs.length x.rc, .slice x.mA x.ms.length x.mc, .slice x.gA x.gs.length x.gc, .int .i64 x.time, .slice x.dA x.ds.length x.dc, .slice x.lA x.ls.length x.lc] 33)).alloc (.cells #[.slice none 0 0, .slice none 0 0, .slice none 0 0, .int .i64 0, .slice none 0 0, .slice none 0 0] 55)).alloc (.cells #[.slice none 0 0, .slice none 0 0, .slice none 0 0, .int .i64 0, .slice none 0 0, .slice none 0 0] 55)) w' /\ ∃ l' : List RC, Grow rowP w' s0 x.rs.length l' /\ l'.map RC.p = x.rs.map RC.p) := by
    have h := toRowS_any x.rA x.rc x.rs Hf.out.rl Hf.out.ri (((w.alloc (.cells #[.slice x.rA x.rs.length x.rc, .slice x.mA x.ms.length x.mc, .slice x.gA x.gs.length x.gc, .int .i64 x.time, .slice x.dA x.ds.length x.dc, .slice x.lA x.ls.length x.lc] 33)).alloc (.cells #[.slice none 0 0, .slice none 0 0, .slice none 0 0, .int .i64 0, .slice none 0 0, .slice none 0 0] 55)).alloc (.cells #[.slice none 0 0, .slice none 0 0, .slice none 0 0, .int .i64 0, .slice none 0 0, .slice none 0 0] 55)) (HX.out.below B).ra (HX.out.below B).re
    rw [hs0] at h
    exact h
  go_wp2_with fail
  refine C.out.mono ?_
  rintro e w1 ⟨rfl, g, l1, Gr, hp1⟩
  rw [← hs0] at g
  replace B := via0 g B
  replace P1 := P1.below g P1.lt
  replace P2 := P2.below g P2.lt
  replace P3 := P3.below g P3.lt
  have zz1 := g.size
  have O1 := Gr.own
  clear C g
  obtain ⟨u0, u1, u2, u3, u4, u5⟩ := P1.row6
  obtain ⟨v0, v1, v2, v3, v4, v5⟩ := P3.row6
  have q1 := P1.lt
  have q3 := P3.lt
  have f0 := P3.thaw 0
  have f1 := P3.thaw 1
  have f2 := P3.thaw 2
  have f3 := P3.thaw 3
  have f4 := P3.thaw 4
  have f5 := P3.thaw 5
  have kk : Offp (fun b => b = w.heap.size + 1 + 1) w1 (w1.setCell ⟨w.heap.size + 1 + 1, 0, none⟩ (.slice (some ⟨s0, 0, none⟩) x.rs.length x.rs.length)) := Offp.of_only ((Only.refl _ _).set _ _)
  replace B := B.trans (kk.toBelow (B := w.heap.size) (fun b hb => by omega) B.size)
  replace P1 := P1.offp kk (by omega)
  replace P2 := P2.offp kk (by omega)
  replace P3 : Blk (w1.setCell ⟨w.heap.size + 1 + 1, 0, none⟩ (.slice (some ⟨s0, 0, none⟩) x.rs.length x.rs.length)) (w.heap.size + 1 + 1) 55 #[.slice (some ⟨s0, 0, none⟩) x.rs.length x.rs.length, .slice none 0 0, .slice none 0 0, .int .i64 0, .slice none 0 0, .slice none 0 0] := P3.setAt 0 _
  replace O1 := O1.offp rowP_firm kk (fun b hb => by omega)
  clear kk
  have sz1 : (w1.setCell ⟨w.heap.size + 1 + 1, 0, none⟩ (.slice (some ⟨s0, 0, none⟩) x.rs.length x.rs.length)).heap.size = w1.heap.size := by simp
  obtain ⟨s1, hs1⟩ : ∃ s, (w1.setCell ⟨w.heap.size + 1 + 1, 0, none⟩ (.slice (some ⟨s0, 0, none⟩) x.rs.length x.rs.length)).heap.size = s := ⟨_, rfl⟩
  have C : Hid (Calls Tryz.prog 81 #[.slice x.mA x.ms.length x.mc] (w1.setCell ⟨w.heap.size + 1 + 1, 0, none⟩ (.slice (some ⟨s0, 0, none⟩) x.rs.length x.rs.length)) fun e w' => e = .returned (.slice (some ⟨s1, 0, none⟩) x.ms.length x.ms.length) /\ Below s1 (w1.setCell ⟨w.heap.size + 1 + 1, 0, none⟩ (.slice (some ⟨s0, 0, none⟩) x.rs.length x.rs.length)) w' /\ ∃ l' : List MC, Grow makP w' s1 x.ms.length l' /\ l'.map MC.p = x.ms.map MC.p) := by
    have h := toMakerS_grow x.mA x.mc x.ms Hf.out.ml Hf.out.mi (w1.setCell ⟨w.heap.size + 1 + 1, 0, none⟩ (.slice (some ⟨s0, 0, none⟩) x.rs.length x.rs.length)) (HX.out.below B).ma (HX.out.below B).me
    rw [hs1] at h
    exact h
  go_wp2_with fail
  clear u0 u1 u2 u3 u4 u5 v0 v1 v2 v3 v4 v5 q1 q3 f0 f1 f2 f3 f4 f5
  refine C.out.mono ?_
  rintro e w2 ⟨rfl, g, l2, Gr, hp2⟩
  rw [← hs1] at g
  replace B := via0 g B
  replace P1 := P1.below g P1.lt
  replace P2 := P2.below g P2.lt
  replace P3 := P3.below g P3.lt
  replace O1 := O1.below rowP_firm g
  have zz2 := g.size
  have O2 := Gr.own
  clear C g
  obtain ⟨u0, u1, u2, u3, u4, u5⟩ := P1.row6
  obtain ⟨v0, v1, v2, v3, v4, v5⟩ := P3.row6
  have q1 := P1.lt
  have q3 := P3.lt
  have f0 := P3.thaw 0
  have f1 := P3.thaw 1
  have f2 := P3.thaw 2
  have f3 := P3.thaw 3
  have f4 := P3.thaw 4
  have f5 := P3.thaw 5
  have kk : Offp (fun b => b = w.heap.size + 1 + 1) w2 (w2.setCell ⟨w.heap.size + 1 + 1, 1, none⟩ (.slice (some ⟨s1, 0, none⟩) x.ms.length x.ms.length)) := Offp.of_only ((Only.refl _ _).set _ _)
  replace B := B.trans (kk.toBelow (B := w.heap.size) (fun b hb => by omega) B.size)
  replace P1 := P1.offp kk (by omega)
  replace P2 := P2.offp kk (by omega)
  replace P3 : Blk (w2.setCell ⟨w.heap.size + 1 + 1, 1, none⟩ (.slice (some ⟨s1, 0, none⟩) x.ms.length x.ms.length)) (w.heap.size + 1 + 1) 55 #[.slice (some ⟨s0, 0, none⟩) x.rs.length x.rs.length, .slice (some ⟨s1, 0, none⟩) x.ms.length x.ms.length, .slice none 0 0, .int .i64 0, .slice none 0 0, .slice none 0 0] := P3.setAt 1 _
  replace O1 := O1.offp rowP_firm kk (fun b hb => by omega)
  replace O2 := O2.offp makP_firm kk (fun b hb => by omega)
  clear kk
  have sz2 : (w2.setCell ⟨w.heap.size + 1 + 1, 1, none⟩ (.slice (some ⟨s1, 0, none⟩) x.ms.length x.ms.length)).heap.size = w2.heap.size := by simp
  obtain ⟨s2, hs2⟩ : ∃ s, (w2.setCell ⟨w.heap.size + 1 + 1, 1, none⟩ (.slice (some ⟨s1, 0, none⟩) x.ms.length x.ms.length)).heap.size = s := ⟨_, rfl⟩
  have C : Hid (Calls Tryz.prog 82 #[.slice x.gA x.gs.length x.gc] (w2.setCell ⟨w.heap.size + 1 + 1, 1, none⟩ (.slice (some ⟨s1, 0, none⟩) x.ms.length x.ms.length)) fun e w' => e = .returned (.slice (some ⟨s2, 0, none⟩) x.gs.length x.gs.length) /\ Below s2 (w2.setCell ⟨w.heap.size + 1 + 1, 1, none⟩ (.slice (some ⟨s1, 0, none⟩) x.ms.length x.ms.length)) w' /\ ∃ l' : List GC, Grow grpP w' s2 x.gs.length l' /\ l'.map GC.p = x.gs.map GC.p) := by
    have h := toGroupS_any x.gA x.gc x.gs Hf.out.gl Hf.out.gi (w2.setCell ⟨w.heap.size + 1 + 1, 1, none⟩ (.slice (some ⟨s1, 0, none⟩) x.ms.length x.ms.length)) (HX.out.below B).ga (HX.out.below B).ge
    rw [hs2] at h
    exact h
  go_wp2_with fail
  clear u0 u1 u2 u3 u4 u5 v0 v1 v2 v3 v4 v5 q1 q3 f0 f1 f2 f3 f4 f5
  refine C.out.mono ?_
  rintro e w3 ⟨rfl, g, l3, Gr, hp3⟩
  rw [← hs2] at g
  replace B := via0 g B
  replace P1 := P1.below g P1.lt
  replace P2 := P2.below g P2.lt
  replace P3 := P3.below g P3.lt
  replace O1 := O1.below rowP_firm g
  replace O2 := O2.below makP_firm g
  have zz3 := g.size
  have O3 := Gr.own
  clear C g
  obtain ⟨u0, u1, u2, u3, u4, u5⟩ := P1.row6
  obtain ⟨v0, v1, v2, v3, v4, v5⟩ := P3.row6
  have q1 := P1.lt
  have q3 := P3.lt
  have f0 := P3.thaw 0
  have f1 := P3.thaw 1
  have f2 := P3.thaw 2
  have f3 := P3.thaw 3
  have f4 := P3.thaw 4
  have f5 := P3.thaw 5
  have kk : Offp (fun b => b = w.heap.size + 1 + 1) w3 (w3.setCell ⟨w.heap.size + 1 + 1, 2, none⟩ (.slice (some ⟨s2, 0, none⟩) x.gs.length x.gs.length)) := Offp.of_only ((Only.refl _ _).set _ _)
  replace B := B.trans (kk.toBelow (B := w.heap.size) (fun b hb => by omega) B.size)
  replace P1 := P1.offp kk (by omega)
  replace P2 := P2.offp kk (by omega)
  replace P3 : Blk (w3.setCell ⟨w.heap.size + 1 + 1, 2, none⟩ (.slice (some ⟨s2, 0, none⟩) x.gs.length x.gs.length)) (w.heap.size + 1 + 1) 55 #[.slice (some ⟨s0, 0, none⟩) x.rs.length x.rs.length, .slice (some ⟨s1, 0, none⟩) x.ms.length x.ms.length, .slice (some ⟨s2, 0, none⟩) x.gs.length x.gs.length, .int .i64 0, .slice none 0 0, .slice none 0 0] := P3.setAt 2 _
  replace O1 := O1.offp rowP_firm kk (fun b hb => by omega)
  replace O2 := O2.offp makP_firm kk (fun b hb => by omega)
  replace O3 := O3.offp grpP_firm kk (fun b hb => by omega)
  clear kk
  have kk : Offp (fun b => b = w.heap.size + 1 + 1) (w3.setCell ⟨w.heap.size + 1 + 1, 2, none⟩ (.slice (some ⟨s2, 0, none⟩) x.gs.length x.gs.length)) ((w3.setCell ⟨w.heap.size + 1 + 1, 2, none⟩ (.slice (some ⟨s2, 0, none⟩) x.gs.length x.gs.length)).setCell ⟨w.heap.size + 1 + 1, 3, none⟩ (.int .i64 x.time)) := Offp.of_only ((Only.refl _ _).set _ _)
  replace B := B.trans (kk.toBelow (B := w.heap.size) (fun b hb => by omega) B.size)
  replace P1 := P1.offp kk (by omega)
  replace P2 := P2.offp kk (by omega)
  replace P3 : Blk ((w3.setCell ⟨w.heap.size + 1 + 1, 2, none⟩ (.slice (some ⟨s2, 0, none⟩) x.gs.length x.gs.length)).setCell ⟨w.heap.size + 1 + 1, 3, none⟩ (.int .i64 x.time)) (w.heap.size + 1 + 1) 55 #[.slice (some ⟨s0, 0, none⟩) x.rs.length x.rs.length, .slice (some ⟨s1, 0, none⟩) x.ms.length x.ms.length, .slice (some ⟨s2, 0, none⟩) x.gs.length x.gs.length, .int .i64 x.time, .slice none 0 0, .slice none 0 0] := P3.setAt 3 _
  replace O1 := O1.offp rowP_firm kk (fun b hb => by omega)
  replace O2 := O2.offp makP_firm kk (fun b hb => by omega)
  replace O3 := O3.offp grpP_firm kk (fun b hb => by omega)
  clear kk
  have sz3 : ((w3.setCell ⟨w.heap.size + 1 + 1, 2, none⟩ (.slice (some ⟨s2, 0, none⟩) x.gs.length x.gs.length)).setCell ⟨w.heap.size + 1 + 1, 3, none⟩ (.int .i64 x.time)).heap.size = w3.heap.size := by simp
  obtain ⟨s3, hs3⟩ : ∃ s, ((w3.setCell ⟨w.heap.size + 1 + 1, 2, none⟩ (.slice (some ⟨s2, 0, none⟩) x.gs.length x.gs.length)).setCell ⟨w.heap.size + 1 + 1, 3, none⟩ (.int .i64 x.time)).heap.size = s := ⟨_, rfl⟩
  have C : Hid (Calls Tryz.prog 33 #[.slice x.dA x.ds.length x.dc] ((w3.setCell ⟨w.heap.size + 1 + 1, 2, none⟩ (.slice (some ⟨s2, 0, none⟩) x.gs.length x.gs.length)).setCell ⟨w.heap.size + 1 + 1, 3, none⟩ (.int .i64 x.time)) fun e w' => e = .returned (.slice (some ⟨s3, 0, none⟩) x.ds.length x.ds.length) /\ Below s3 ((w3.setCell ⟨w.heap.size + 1 + 1, 2, none⟩ (.slice (some ⟨s2, 0, none⟩) x.gs.length x.gs.length)).setCell ⟨w.heap.size + 1 + 1, 3, none⟩ (.int .i64 x.time)) w' /\ s3 < w'.heap.size /\ In w' s3 0 x.ds /\ w'.there s3 0 (x.ds.length * 1)) := by
    have h := toInt_any x.dA x.dc x.ds Hf.out.dl ((w3.setCell ⟨w.heap.size + 1 + 1, 2, none⟩ (.slice (some ⟨s2, 0, none⟩) x.gs.length x.gs.length)).setCell ⟨w.heap.size + 1 + 1, 3, none⟩ (.int .i64 x.time)) (HX.out.below B).da
    rw [hs3] at h
    exact h
  go_wp2_with fail
  clear u0 u1 u2 u3 u4 u5 v0 v1 v2 v3 v4 v5 q1 q3 f0 f1 f2 f3 f4 f5
  refine C.out.mono ?_
  rintro e w4 ⟨rfl, g, hlt, hin, hth⟩
  rw [← hs3] at g
  replace B := via0 g B
  replace P1 := P1.below g P1.lt
  replace P2 := P2.below g P2.lt
  replace P3 := P3.below g P3.lt
  replace O1 := O1.below rowP_firm g
  replace O2 := O2.below makP_firm g
  replace O3 := O3.below grpP_firm g
  have zz4 := g.size
  have O4 : Sub w4 (some ⟨s3, 0, none⟩) x.ds (fun b => s3 <= b /\ b < w4.heap.size) := .inr ⟨s3, 0, rfl, ⟨Nat.le_refl _, hlt⟩, hlt, hin, hth⟩
  clear C g
  obtain ⟨u0, u1, u2, u3, u4, u5⟩ := P1.row6
  obtain ⟨v0, v1, v2, v3, v4, v5⟩ := P3.row6
  have q1 := P1.lt
  have q3 := P3.lt
  have f0 := P3.thaw 0
  have f1 := P3.thaw 1
  have f2 := P3.thaw 2
  have f3 := P3.thaw 3
  have f4 := P3.thaw 4
  have f5 := P3.thaw 5
  have kk : Offp (fun b => b = w.heap.size + 1 + 1) w4 (w4.setCell ⟨w.heap.size + 1 + 1, 4, none⟩ (.slice (some ⟨s3, 0, none⟩) x.ds.length x.ds.length)) := Offp.of_only ((Only.refl _ _).set _ _)
  replace B := B.trans (kk.toBelow (B := w.heap.size) (fun b hb => by omega) B.size)
  replace P1 := P1.offp kk (by omega)
  replace P2 := P2.offp kk (by omega)
  replace P3 : Blk (w4.setCell ⟨w.heap.size + 1 + 1, 4, none⟩ (.slice (some ⟨s3, 0, none⟩) x.ds.length x.ds.length)) (w.heap.size + 1 + 1) 55 #[.slice (some ⟨s0, 0, none⟩) x.rs.length x.rs.length, .slice (some ⟨s1, 0, none⟩) x.ms.length x.ms.length, .slice (some ⟨s2, 0, none⟩) x.gs.length x.gs.length, .int .i64 x.time, .slice (some ⟨s3, 0, none⟩) x.ds.length x.ds.length, .slice none 0 0] := P3.setAt 4 _
  replace O1 := O1.offp rowP_firm kk (fun b hb => by omega)
  replace O2 := O2.offp makP_firm kk (fun b hb => by omega)
  replace O3 := O3.offp grpP_firm kk (fun b hb => by omega)
  replace O4 := O4.offp kk (fun b hb => by omega)
  clear kk
  have sz4 : (w4.setCell ⟨w.heap.size + 1 + 1, 4, none⟩ (.slice (some ⟨s3, 0, none⟩) x.ds.length x.ds.length)).heap.size = w4.heap.size := by simp
  obtain ⟨s4, hs4⟩ : ∃ s, (w4.setCell ⟨w.heap.size + 1 + 1, 4, none⟩ (.slice (some ⟨s3, 0, none⟩) x.ds.length x.ds.length)).heap.size = s := ⟨_, rfl⟩
  have C : Hid (Calls Tryz.prog 83 #[.slice x.lA x.ls.length x.lc] (w4.setCell ⟨w.heap.size + 1 + 1, 4, none⟩ (.slice (some ⟨s3, 0, none⟩) x.ds.length x.ds.length)) fun e w' => e = .returned (.slice (some ⟨s4, 0, none⟩) x.ls.length x.ls.length) /\ Below s4 (w4.setCell ⟨w.heap.size + 1 + 1, 4, none⟩ (.slice (some ⟨s3, 0, none⟩) x.ds.length x.ds.length)) w' /\ s4 < w'.heap.size /\ In w' s4 0 x.ls /\ w'.there s4 0 (x.ls.length * 4)) := by
    have h := toAnswerS_any x.lA x.lc x.ls Hf.out.ll (w4.setCell ⟨w.heap.size + 1 + 1, 4, none⟩ (.slice (some ⟨s3, 0, none⟩) x.ds.length x.ds.length)) (HX.out.below B).la
    rw [hs4] at h
    exact h
  go_wp2_with fail
  clear u0 u1 u2 u3 u4 u5 v0 v1 v2 v3 v4 v5 q1 q3 f0 f1 f2 f3 f4 f5
  refine C.out.mono ?_
  rintro e w5 ⟨rfl, g, hlt, hin, hth⟩
  rw [← hs4] at g
  replace B := via0 g B
  replace P1 := P1.below g P1.lt
  replace P2 := P2.below g P2.lt
  replace P3 := P3.below g P3.lt
  replace O1 := O1.below rowP_firm g
  replace O2 := O2.below makP_firm g
  replace O3 := O3.below grpP_firm g
  replace O4 := O4.below g
  have zz5 := g.size
  have O5 : Sub w5 (some ⟨s4, 0, none⟩) x.ls (fun b => s4 <= b /\ b < w5.heap.size) := .inr ⟨s4, 0, rfl, ⟨Nat.le_refl _, hlt⟩, hlt, hin, hth⟩
  clear C g
  obtain ⟨u0, u1, u2, u3, u4, u5⟩ := P2.row6
  obtain ⟨v0, v1, v2, v3, v4, v5⟩ := P3.row6
  have q1 := P2.lt
  have q3 := P3.lt
  have f0 := P3.thaw 0
  have f1 := P3.thaw 1
  have f2 := P3.thaw 2
  have f3 := P3.thaw 3
  have f4 := P3.thaw 4
  have f5 := P3.thaw 5
  have e0 := P2.thaw 0
  have e1 := P2.thaw 1
  have e2 := P2.thaw 2
  have e3 := P2.thaw 3
  have e4 := P2.thaw 4
  have e5 := P2.thaw 5
  have kk : Offp (fun b => b = w.heap.size + 1 + 1) w5 (w5.setCell ⟨w.heap.size + 1 + 1, 5, none⟩ (.slice (some ⟨s4, 0, none⟩) x.ls.length x.ls.length)) := Offp.of_only ((Only.refl _ _).set _ _)
  replace B := B.trans (kk.toBelow (B := w.heap.size) (fun b hb => by omega) B.size)
  replace P1 := P1.offp kk (by omega)
  replace P2 := P2.offp kk (by omega)
  replace P3 : Blk (w5.setCell ⟨w.heap.size + 1 + 1, 5, none⟩ (.slice (some ⟨s4, 0, none⟩) x.ls.length x.ls.length)) (w.heap.size + 1 + 1) 55 #[.slice (some ⟨s0, 0, none⟩) x.rs.length x.rs.length, .slice (some ⟨s1, 0, none⟩) x.ms.length x.ms.length, .slice (some ⟨s2, 0, none⟩) x.gs.length x.gs.length, .int .i64 x.time, .slice (some ⟨s3, 0, none⟩) x.ds.length x.ds.length, .slice (some ⟨s4, 0, none⟩) x.ls.length x.ls.length] := P3.setAt 5 _
  replace O1 := O1.offp rowP_firm kk (fun b hb => by omega)
  replace O2 := O2.offp makP_firm kk (fun b hb => by omega)
  replace O3 := O3.offp grpP_firm kk (fun b hb => by omega)
  replace O4 := O4.offp kk (fun b hb => by omega)
  replace O5 := O5.offp kk (fun b hb => by omega)
  clear kk
  have sz5 : (w5.setCell ⟨w.heap.size + 1 + 1, 5, none⟩ (.slice (some ⟨s4, 0, none⟩) x.ls.length x.ls.length)).heap.size = w5.heap.size := by simp
  have HB := hidP B
  have HO1 := hidP O1
  have HO2 := hidP O2
  have HO3 := hidP O3
  have HO4 := hidP O4
  have HO5 := hidP O5
  have HP2 := hidP P2
  clear B O1 O2 O3 O4 O5 P1 P2 P3
  go_wp2
  have E6 := ((((((HP2.out.setAt 0 (.slice (some ⟨s0, 0, none⟩) x.rs.length x.rs.length)).setAt 1 (.slice (some ⟨s1, 0, none⟩) x.ms.length x.ms.length)).setAt 2 (.slice (some ⟨s2, 0, none⟩) x.gs.length x.gs.length)).setAt 3 (.int .i64 x.time)).setAt 4 (.slice (some ⟨s3, 0, none⟩) x.ds.length x.ds.length)).setAt 5 (.slice (some ⟨s4, 0, none⟩) x.ls.length x.ls.length))
  have E6' : Blk _ (w.heap.size + 1) 55 #[.slice (some ⟨s0, 0, none⟩) x.rs.length x.rs.length, .slice (some ⟨s1, 0, none⟩) x.ms.length x.ms.length, .slice (some ⟨s2, 0, none⟩) x.gs.length x.gs.length, .int .i64 x.time, .slice (some ⟨s3, 0, none⟩) x.ds.length x.ds.length, .slice (some ⟨s4, 0, none⟩) x.ls.length x.ls.length] := E6
  obtain ⟨x0, y1, y2, y3, y4, y5⟩ := E6'.row6
  refine bodyPost_ret (v := .agg #[.slice (some ⟨s0, 0, none⟩) x.rs.length x.rs.length, .slice (some ⟨s1, 0, none⟩) x.ms.length x.ms.length, .slice (some ⟨s2, 0, none⟩) x.gs.length x.gs.length, .int .i64 x.time, .slice (some ⟨s3, 0, none⟩) x.ds.length x.ds.length, .slice (some ⟨s4, 0, none⟩) x.ls.length x.ls.length]) (by simp [results, Tryz.results34, go_sem, x0, y1, y2, y3, y4, y5]) rfl ?_
  have kk : Offp (fun b => b = w.heap.size + 1) (w5.setCell ⟨w.heap.size + 1 + 1, 5, none⟩ (.slice (some ⟨s4, 0, none⟩) x.ls.length x.ls.length)) _ := ((((((Offp.refl (fun b => b = w.heap.size + 1) (w5.setCell ⟨w.heap.size + 1 + 1, 5, none⟩ (.slice (some ⟨s4, 0, none⟩) x.ls.length x.ls.length))).set (b := w.heap.size + 1) rfl 0 (.slice (some ⟨s0, 0, none⟩) x.rs.length x.rs.length)).set (b := w.heap.size + 1) rfl 1 (.slice (some ⟨s1, 0, none⟩) x.ms.length x.ms.length)).set (b := w.heap.size + 1) rfl 2 (.slice (some ⟨s2, 0, none⟩) x.gs.length x.gs.length)).set (b := w.heap.size + 1) rfl 3 (.int .i64 x.time)).set (b := w.heap.size + 1) rfl 4 (.slice (some ⟨s3, 0, none⟩) x.ds.length x.ds.length)).set (b := w.heap.size + 1) rfl 5 (.slice (some ⟨s4, 0, none⟩) x.ls.length x.ls.length)
  have O1 := HO1.out.offp rowP_firm kk (fun b hb => by omega)
  have O2 := HO2.out.offp makP_firm kk (fun b hb => by omega)
  have O3 := HO3.out.offp grpP_firm kk (fun b hb => by omega)
  have O4 := HO4.out.offp kk (fun b hb => by omega)
  have O5 := HO5.out.offp kk (fun b hb => by omega)
  have BB := HB.out.trans (kk.toBelow (B := w.heap.size) (fun b hb => by omega) HB.out.size)
  have le1 : l1.length = x.rs.length := by have := congrArg List.length hp1; simpa using this
  have le2 : l2.length = x.ms.length := by have := congrArg List.length hp2; simpa using this
  have le3 : l3.length = x.gs.length := by have := congrArg List.length hp3; simpa using this
  have kz := kk.size
  refine ⟨⟨some ⟨s0, 0, none⟩, x.rs.length, l1, some ⟨s1, 0, none⟩, x.ms.length, l2, some ⟨s2, 0, none⟩, x.gs.length, l3, x.time, some ⟨s3, 0, none⟩, x.ds.length, x.ds, some ⟨s4, 0, none⟩, x.ls.length, x.ls⟩, by simp only [KC.cells, le1, le2, le3], by simp only [KC.p, hp1, hp2, hp3], ⟨fun b => if b < s1 then 1 else if b < s2 then 2 else if b < s3 then 3 else if b < s4 then 4 else 5, ?_, ?_, ?_, ?_, ?_⟩, BB⟩
  skip
  . exact O1.mono (fun b hb => ⟨⟨by omega, by omega⟩, by repeat (first | rw [if_pos (by omega)] | rw [if_neg (by omega)])⟩)
  . exact O2.mono (fun b hb => ⟨⟨by omega, by omega⟩, by repeat (first | rw [if_pos (by omega)] | rw [if_neg (by omega)])⟩)
  . exact O3.mono (fun b hb => ⟨⟨by omega, by omega⟩, by repeat (first | rw [if_pos (by omega)] | rw [if_neg (by omega)])⟩)
  . exact O4.mono (fun b hb => ⟨⟨by omega, by omega⟩, by repeat (first | rw [if_pos (by omega)] | rw [if_neg (by omega)])⟩)
  . exact O5.mono (fun b hb => ⟨⟨by omega, by omega⟩, by repeat (first | rw [if_pos (by omega)] | rw [if_neg (by omega)])⟩)
end Go.Proofs.YtengolneibbdfaaGreat.Gen

/-
  What the copies of a keeper want on both sides. No condition.
-/
namespace Go.Proofs.YtengolneibbdfaaGreat.Gen
open Go.ChangeShapes Go.WideShapes Go.ChangeAt Go.RowKit Go.Joins Go.Deep Base
open Items (It)
set_option linter.unusedVariables false
set_option linter.unusedSimpArgs false
theorem Du.putK {q P : Nat} {W : World} {v1 v2 : Value} {l1 : List Int} {l2 : List An} {vs : Array Value} (h : Du q W v1 v2 l1 l2) (o : Blk W P 55 vs) (u0 u1 u2 u3 u4 u5 : Value) : Du q (putK W P u0 u1 u2 u3 u4 u5) v1 v2 l1 l2 := by
  have k := Offp.of_only (only_putK W P u0 u1 u2 u3 u4 u5)
  exact ⟨owns_offp h.o1 k (fun x hx e => owns_ne h.o1 o (by decide) x hx e), owns_offp h.o2 k (fun x hx e => owns_ne h.o2 o (by decide) x hx e), Nat.le_trans h.q k.size⟩
theorem gp_own {W : World} {a1 a2 a3 : Option Addr} {m b o : List Int} {F : List Nat} {lo : Nat} (h : Gp W a1 a2 a3 m b o F) (hF : ∀ x ∈ F, lo <= x) (gen : Int) (c1 c2 c3 : Nat) : grpP W (⟨gen, a1, c1, m, a2, c2, b, a3, c3, o⟩ : GC) (fun x => lo <= x /\ x < W.heap.size) := by
  have hlt := h.lt
  obtain ⟨F1, F2, F3, rfl, s1, s2, s3, hnd⟩ := h
  simp only [List.nodup_append] at hnd
  have sub : ∀ {l : List Int} {a : Option Addr} {G : List Nat}, Sl W a l G -> Sub W a l (fun x => x ∈ G) := fun hs => by
    rcases hs with ⟨e, _⟩ | ⟨b, o, e, rfl, hb, hi, ht⟩
    . exact .inl e
    . exact .inr ⟨b, o, e, by simp, hb, hi, ht⟩
  exact ⟨fun x => x ∈ F1, fun x => x ∈ F2, fun x => x ∈ F3, fun y hy => ⟨hF y (by simp [hy]), hlt y (by simp [hy])⟩, fun y hy => ⟨hF y (by simp [hy]), hlt y (by simp [hy])⟩, fun y hy => ⟨hF y (by simp [hy]), hlt y (by simp [hy])⟩,
    fun y h1 h2 => hnd.2.2 y h1 y (by simp [h2]) rfl, fun y h1 h2 => hnd.2.2 y h1 y (by simp [h2]) rfl, fun y h1 h2 => hnd.2.1.2.2 y h1 y h2 rfl, sub s1, sub s2, sub s3⟩
theorem du_stay {q P : Nat} {W : World} {a1 a2 : Option Addr} {c1 c2 : Nat} {l1 : List Int} {l2 : List An} {vs : Array Value} (h : Du q W (.slice a1 l1.length c1) (.slice a2 l2.length c2) l1 l2) (o : Blk W P 55 vs) : Stay2 P W.heap.size (fun V => Du q V (.slice a1 l1.length c1) (.slice a2 l2.length c2) l1 l2) := by
  intro V V' T p k hT
  refine ⟨owns_offp p.o1 k (fun x hx e => ?_), owns_offp p.o2 k (fun x hx e => ?_), Nat.le_trans p.q k.size⟩
  . rcases hT x e with rfl | e1
    . exact owns_ne h.o1 o (by decide) x hx rfl
    . have := (h.o1.lt x hx).2; omega
  . rcases hT x e with rfl | e1
    . exact owns_ne h.o2 o (by decide) x hx rfl
    . have := (h.o2.lt x hx).2; omega
theorem owns_zero {α : Type} [Cel α] {B : Nat} {W : World} {t : TypeId} {a : Option Addr} {c : Nat} {xs : List α} (h : W.ownsRow B t (Cel.k α) (.slice a xs.length c) xs.length (flat xs)) : xs = [] ∨ ∃ b, a = some ⟨b, 0, none⟩ := by
  rcases h.2 with ⟨_, h0⟩ | ⟨g, c', cur, e, _⟩
  . exact .inl (List.length_eq_zero_iff.1 h0)
  . cases e; exact .inr ⟨g, rfl⟩
theorem sub_own {α : Type} [Cel α] {B : Nat} {W : World} {t : TypeId} {a : Option Addr} {c : Nat} {xs : List α} (h : W.ownsRow B t (Cel.k α) (.slice a xs.length c) xs.length (flat xs)) : Sub W a xs (fun b => (Value.slice a xs.length c).ownBlock = some b /\ B <= b) := by
  by_cases hl : 0 < xs.length
  . obtain ⟨b, h1, h2, h3⟩ := Pl.of_own h hl
    exact .inr ⟨b, 0, h1.a, ⟨h3, h2⟩, h1.lt, h1.i, h1.th⟩
  . exact .inl (List.length_eq_zero_iff.1 (by omega))
theorem toldO_of {w W : World} {P s0 s1 s2 : Nat} {pA qA a zA vA : Option Addr} {pc qc cp zc vc : Nat} {ps rs : List RC} {qs ms : List MC} {xs gs : List GC} {time : Int} {ds : List Int} {ls : List An} {kc : Array Value}
    (K : KP (α := GC) grpP 139 (fun V => ((fun V => Du (w.heap.size + 2) V (.slice zA ds.length zc) (.slice vA ls.length vc) ds ls) V /\ Own rowP V pA ps (fun b => s0 <= b /\ b < s1)) /\ Own makP V qA qs (fun b => s1 <= b /\ b < s2)) s2 w W kc P #[.slice pA (List.length ps) pc, .slice qA (List.length qs) qc, .slice a (List.length xs) cp, .int .i64 time, .slice zA ds.length zc, .slice vA ls.length vc] a cp xs)
    (h0 : P < s0 /\ w.heap.size + 2 <= s0) (h1 : s0 <= s1) (h2 : s1 <= s2) (z0 : (∀ x, (Value.slice zA ds.length zc).ownBlock = some x -> x < s0) /\ ∀ x, (Value.slice vA ls.length vc).ownBlock = some x -> x < s0)
    (m1 : ps.map RC.p = rs.map RC.p) (m2 : qs.map MC.p = ms.map MC.p) (m3 : xs.map GC.p = gs.map GC.p)
    (rA : Option Addr) (rc : Nat) (mA : Option Addr) (mc : Nat) (gA : Option Addr) (gc : Nat) (dA : Option Addr) (dc : Nat) (lA : Option Addr) (lc : Nat) :
    NewK w (putK W (w.heap.size + 1) (.slice pA (List.length ps) pc) (.slice qA (List.length qs) qc) (.slice a (List.length xs) cp) (.int .i64 time) (.slice zA ds.length zc) (.slice vA ls.length vc)) (.returned (.agg #[.slice pA (List.length ps) pc, .slice qA (List.length qs) qc, .slice a (List.length xs) cp, .int .i64 time, .slice zA ds.length zc, .slice vA ls.length vc])) (⟨rA, rc, rs, mA, mc, ms, gA, gc, gs, time, dA, dc, ds, lA, lc, ls⟩ : KC).p := by
  obtain ⟨⟨hDu, hR⟩, hM⟩ := K.pk
  have hG := K.gu.toOwn
  have hsW := K.gu.hB
  have hD := sub_own hDu.o1
  have hL := sub_own hDu.o2
  have hne : ∀ x y, (Value.slice zA ds.length zc).ownBlock = some x -> (Value.slice vA ls.length vc).ownBlock = some y -> x ≠ y := fun x y hx hy => by
    rcases hDu.o2.2 with ⟨e, h3⟩ | ⟨g, c', cur, e, _, hg, _⟩
    . rw [e] at hy; simp [Value.ownBlock] at hy
    . cases e
      have : y = g := by simpa [Value.ownBlock] using hy.symm
      subst this
      exact owns_ne hDu.o1 (show Blk W y 142 cur from hg) (by decide) x hx
  have k := Offp.of_only (only_putK W (w.heap.size + 1) (.slice pA (List.length ps) pc) (.slice qA (List.length qs) qc) (.slice a (List.length xs) cp) (.int .i64 time) (.slice zA ds.length zc) (.slice vA ls.length vc))
  have KO : KOwn W (⟨pA, pc, ps, qA, qc, qs, a, cp, xs, time, zA, zc, ds, vA, vc, ls⟩ : KC) (fun b => w.heap.size + 2 <= b /\ b < W.heap.size) := by
    refine ⟨fun b => if b < s0 then (if (Value.slice zA ds.length zc).ownBlock = some b then 4 else 5) else if b < s1 then 1 else if b < s2 then 2 else 3, ?_, ?_, ?_, ?_, ?_⟩
    . exact hR.mono (fun z hz => by have h3 := hz.1; have h4 := hz.2; exact ⟨⟨by omega, by omega⟩, by rw [if_neg (by omega), if_pos h4]⟩)
    . exact hM.mono (fun z hz => by have h3 := hz.1; have h4 := hz.2; exact ⟨⟨by omega, by omega⟩, by rw [if_neg (by omega), if_neg (by omega), if_pos h4]⟩)
    . exact hG.mono (fun z hz => by have h3 := hz.1; have h4 := hz.2; exact ⟨⟨by omega, by omega⟩, by rw [if_neg (by omega), if_neg (by omega), if_neg (by omega)]⟩)
    . exact hD.mono (fun z hz => by have h3 := z0.1 z hz.1; have h4 := hz.2; exact ⟨⟨by omega, by omega⟩, by rw [if_pos h3, if_pos hz.1]⟩)
    . exact hL.mono (fun z hz => by have h3 := z0.2 z hz.1; have h4 := hz.2; exact ⟨⟨by omega, by omega⟩, by rw [if_pos h3, if_neg (fun e => hne z z e hz.1 rfl)]⟩)
  refine ⟨⟨pA, pc, ps, qA, qc, qs, a, cp, xs, time, zA, zc, ds, vA, vc, ls⟩, rfl, by simp only [KC.p, m1, m2, m3], (KO.offp k (fun b hb e => by have h3 := hb.1; omega)).mono (fun b hb => ⟨by have h3 := hb.1; omega, Nat.lt_of_lt_of_le hb.2 k.size⟩), K.kd.bl.trans (k.toBelow (fun x hx => by omega) K.kd.bl.size)⟩
end Go.Proofs.YtengolneibbdfaaGreat.Gen

/-
  The parts of MakerPut at this seat: copies, the greater of two numbers, the last marks of a list.
-/
namespace Go.Proofs.YtengolneibbdfaaGreat.Gen
open Go.ChangeShapes Go.WideShapes Go.ChangeAt Go.RowKit Go.Joins Go.Deep Base
set_option linter.unusedVariables false
set_option linter.unusedSimpArgs false
theorem app_mk (B : Nat) (v : Value) (l m : List Mk) (A : Option Addr) (cap : Nat) (w : World) (hB : B <= w.heap.size) (hv : w.ownsRow B 240 2 v l.length (flat l)) (hA : At w A m) (hlen : l.length + m.length <= 3000000) :
    ∃ v' w', (Builtin.append_ #[193, 193] 193 #[v, .slice A m.length cap]).run Tryz.prog w = .ok v' w' /\ w'.ownsRow B 240 2 v' (l.length + m.length) (flat (l ++ m)) /\ w.grownBy w' v.ownBlock /\ (v'.ownBlock = v.ownBlock ∨ v'.ownBlock = some w.heap.size) :=
  append_els (α := Mk) (P := Tryz.prog) Tryz.underlying193 infoMk rfl (by decide) (by omega) B v l m A cap w hB hv hA hlen
set_option maxRecDepth 100000 in
set_option maxHeartbeats 2000000 in
theorem implCopied_any (row who epoch last : Int) (A : Option Addr) (cap : Nat) (l : List Mk) (hl : l.length <= 1048576) (w : World) (hA : At w A l) :
    Calls Tryz.prog 174 #[.agg #[.int .i64 row, .int .i64 who, .int .i64 epoch, .int .i64 last, .slice A l.length cap]] w fun e w' => ∃ v, e = .returned (.agg #[.int .i64 row, .int .i64 who, .int .i64 epoch, .int .i64 last, v]) /\ w'.ownsRow w.heap.size 240 2 v l.length (flat l) /\ Below w.heap.size w w' := by
  have B0 : Below w.heap.size w ((w.alloc (.cells #[.int .i64 row, .int .i64 who, .int .i64 epoch, .int .i64 last, .slice A l.length cap] 195)).alloc (.cells #[.int .i64 0, .int .i64 0, .int .i64 0, .int .i64 0, .slice none 0 0] 195)) := alloc0 (alloc0 (Below.refl _ _) _) _
  obtain ⟨v, w1, hr, hown, hgrow, hat⟩ := app_mk w.heap.size (.slice none 0 0) [] l A cap ((w.alloc (.cells #[.int .i64 row, .int .i64 who, .int .i64 epoch, .int .i64 last, .slice A l.length cap] 195)).alloc (.cells #[.int .i64 0, .int .i64 0, .int .i64 0, .int .i64 0, .slice none 0 0] 195)) B0.size (World.ownsRow_nil _ _ _ _) (hA.below B0) (by simp; omega)
  simp only [List.length_nil, Nat.zero_add, List.nil_append] at hown
  have p0 := ((Blk.new w 195 #[.int .i64 row, .int .i64 who, .int .i64 epoch, .int .i64 last, .slice A l.length cap]).alloc (.cells #[.int .i64 0, .int .i64 0, .int .i64 0, .int .i64 0, .slice none 0 0] 195)).kept hgrow (by simp [Value.ownBlock])
  have p1 := (Blk.new (w.alloc (.cells #[.int .i64 row, .int .i64 who, .int .i64 epoch, .int .i64 last, .slice A l.length cap] 195)) 195 #[.int .i64 0, .int .i64 0, .int .i64 0, .int .i64 0, .slice none 0 0]).kept hgrow (by simp [Value.ownBlock])
  rw [World.size_alloc] at p1
  have B1 : Below w.heap.size w w1 := B0.grown hgrow B0.size (by simp [Value.ownBlock])
  obtain ⟨c0, c1, c2, c3, c4⟩ := p0.row5
  obtain ⟨d0, d1, d2, d3, d4⟩ := p1.row5
  have f4 := p0.thaw 4
  have g0 := p1.thaw 0
  have g1 := p1.thaw 1
  have g2 := p1.thaw 2
  have g3 := p1.thaw 3
  have g4 := p1.thaw 4
  obtain ⟨a, c, rfl, hc⟩ := owns_form hown
  have hn0 : some w.heap.size ≠ (Value.slice a l.length c).ownBlock := by
    rcases hat with e | e
    . rw [e]; simp [Value.ownBlock]
    . rw [e]; intro h; have := Option.some.inj h; simp only [World.size_alloc] at this; omega
  have hn1 : some (w.heap.size + 1) ≠ (Value.slice a l.length c).ownBlock := by
    rcases hat with e | e
    . rw [e]; simp [Value.ownBlock]
    . rw [e]; intro h; have := Option.some.inj h; simp only [World.size_alloc] at this; omega
  have Hn0 := hidP hn0
  have Hn1 := hidP hn1
  have Hown := hidP hown
  clear hgrow hA hat hown hn0 hn1
  go_enter Tryz.func174, Tryz.ntmps174
  go_wp2_with (at_builtin; refine wpList_append_is rfl _ _ _ rfl _ _ _ rfl rfl hr ?_)
  have p2 : Blk _ (w.heap.size + 1) 195 #[.int .i64 row, .int .i64 who, .int .i64 epoch, .int .i64 last, .slice a l.length c] := (((((p1.other (B' := w.heap.size) (by omega) 4 (.slice a l.length c)).setAt 0 (.int .i64 row)).setAt 1 (.int .i64 who)).setAt 2 (.int .i64 epoch)).setAt 3 (.int .i64 last)).setAt 4 (.slice a l.length c)
  obtain ⟨e0, e1, e2, e3, e4⟩ := p2.row5
  exact bodyPost_ret (v := .agg #[.int .i64 row, .int .i64 who, .int .i64 epoch, .int .i64 last, .slice a l.length c]) (by simp [results, Tryz.results174, go_sem, e0, e1, e2, e3, e4]) rfl
    ⟨_, rfl, owns_set (owns_set (owns_set (owns_set (owns_set (owns_set Hown.out Hn0.out) Hn1.out) Hn1.out) Hn1.out) Hn1.out) Hn1.out, bl_set (bl_set (bl_set (bl_set (bl_set (bl_set B1 (Nat.le_refl _) _) (by omega) _) (by omega) _) (by omega) _) (by omega) _) (by omega) _⟩
set_option maxRecDepth 100000 in
set_option maxHeartbeats 2000000 in
theorem specCopied_any (row who epoch last : Int) (A : Option Addr) (cap : Nat) (l : List Mk) (hl : l.length <= 1048576) (w : World) (hA : At w A l) :
    Calls Tryz.prog 169 #[.agg #[.int .i64 row, .int .i64 who, .int .i64 epoch, .int .i64 last, .slice A l.length cap]] w fun e w' => ∃ v, e = .returned (.agg #[.int .i64 row, .int .i64 who, .int .i64 epoch, .int .i64 last, v]) /\ w'.ownsRow w.heap.size 240 2 v l.length (flat l) /\ Below w.heap.size w w' := by
  have B0 : Below w.heap.size w (((w.alloc (.cells #[.int .i64 row, .int .i64 who, .int .i64 epoch, .int .i64 last, .slice A l.length cap] 195)).alloc (.cells #[.int .i64 0, .int .i64 0, .int .i64 0, .int .i64 0, .slice none 0 0] 195)).alloc (.cells #[] 240)) := alloc0 (alloc0 (alloc0 (Below.refl _ _) _) _) _
  obtain ⟨v, w1, hr, hown, hgrow, hat⟩ := app_mk w.heap.size (.slice (some ⟨w.heap.size + 1 + 1, 0, none⟩) 0 0) [] l A cap (((w.alloc (.cells #[.int .i64 row, .int .i64 who, .int .i64 epoch, .int .i64 last, .slice A l.length cap] 195)).alloc (.cells #[.int .i64 0, .int .i64 0, .int .i64 0, .int .i64 0, .slice none 0 0] 195)).alloc (.cells #[] 240)) B0.size
    ⟨rfl, .inr ⟨w.heap.size + 1 + 1, 0, #[], rfl, by omega, by have := heap_new ((w.alloc (.cells #[.int .i64 row, .int .i64 who, .int .i64 epoch, .int .i64 last, .slice A l.length cap] 195)).alloc (.cells #[.int .i64 0, .int .i64 0, .int .i64 0, .int .i64 0, .slice none 0 0] 195)) (.cells #[] 240); simpa only [World.size_alloc] using this, Nat.le_refl _, by simp [maxLen], rfl, rfl⟩⟩ (hA.below B0) (by simp; omega)
  simp only [List.length_nil, Nat.zero_add, List.nil_append] at hown
  have p0 := (((Blk.new w 195 #[.int .i64 row, .int .i64 who, .int .i64 epoch, .int .i64 last, .slice A l.length cap]).alloc (.cells #[.int .i64 0, .int .i64 0, .int .i64 0, .int .i64 0, .slice none 0 0] 195)).alloc (.cells #[] 240)).kept hgrow (by intro h; have : w.heap.size = w.heap.size + 1 + 1 := Option.some.inj h; omega)
  have p1 := ((Blk.new (w.alloc (.cells #[.int .i64 row, .int .i64 who, .int .i64 epoch, .int .i64 last, .slice A l.length cap] 195)) 195 #[.int .i64 0, .int .i64 0, .int .i64 0, .int .i64 0, .slice none 0 0]).alloc (.cells #[] 240)).kept hgrow (by rw [World.size_alloc]; intro h; have : w.heap.size + 1 = w.heap.size + 1 + 1 := Option.some.inj h; omega)
  rw [World.size_alloc] at p1
  have B1 : Below w.heap.size w w1 := B0.grown hgrow B0.size (fun k e => by have : w.heap.size + 1 + 1 = k := Option.some.inj e; omega)
  obtain ⟨c0, c1, c2, c3, c4⟩ := p0.row5
  obtain ⟨d0, d1, d2, d3, d4⟩ := p1.row5
  have f4 := p0.thaw 4
  have g0 := p1.thaw 0
  have g1 := p1.thaw 1
  have g2 := p1.thaw 2
  have g3 := p1.thaw 3
  have g4 := p1.thaw 4
  obtain ⟨a, c, rfl, hc⟩ := owns_form hown
  have hn : ∀ k, k < w.heap.size + 1 + 1 -> some k ≠ (Value.slice a l.length c).ownBlock := fun k hk => by
    rcases hat with e | e
    . rw [e]; intro h; have : k = w.heap.size + 1 + 1 := Option.some.inj h; omega
    . rw [e]; intro h; have := Option.some.inj h; simp only [World.size_alloc] at this; omega
  have Hn0 := hidP (hn w.heap.size (by omega))
  have Hn1 := hidP (hn (w.heap.size + 1) (by omega))
  have Hown := hidP hown
  clear hgrow hA hat hown hn
  go_enter Tryz.func169, Tryz.ntmps169
  go_wp2_with (at_builtin; refine wpList_append_is rfl _ _ _ rfl _ _ _ rfl rfl hr ?_)
  have p2 : Blk _ (w.heap.size + 1) 195 #[.int .i64 row, .int .i64 who, .int .i64 epoch, .int .i64 last, .slice a l.length c] := (((((p1.other (B' := w.heap.size) (by omega) 4 (.slice a l.length c)).setAt 0 (.int .i64 row)).setAt 1 (.int .i64 who)).setAt 2 (.int .i64 epoch)).setAt 3 (.int .i64 last)).setAt 4 (.slice a l.length c)
  obtain ⟨e0, e1, e2, e3, e4⟩ := p2.row5
  exact bodyPost_ret (v := .agg #[.int .i64 row, .int .i64 who, .int .i64 epoch, .int .i64 last, .slice a l.length c]) (by simp [results, Tryz.results169, go_sem, e0, e1, e2, e3, e4]) rfl
    ⟨_, rfl, owns_set (owns_set (owns_set (owns_set (owns_set (owns_set Hown.out Hn0.out) Hn1.out) Hn1.out) Hn1.out) Hn1.out) Hn1.out, bl_set (bl_set (bl_set (bl_set (bl_set (bl_set B1 (Nat.le_refl _) _) (by omega) _) (by omega) _) (by omega) _) (by omega) _) (by omega) _⟩
end Go.Proofs.YtengolneibbdfaaGreat.Gen
