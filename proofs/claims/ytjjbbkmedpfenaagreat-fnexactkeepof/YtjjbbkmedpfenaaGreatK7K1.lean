/-
  A keeper under way in the specification's reader: lists that grow, each record in blocks of its own. Condition: at most 1048576 bytes.
-/
import Derived.Test.YtjjbbkmedpfenaaGreatK7G
import Derived.Test.YtjjbbkmedpfenaaGreatRKeep2
namespace Go.Proofs.YtjjbbkmedpfenaaGreat.Gen
open Go.ChangeShapes Go.WideShapes Go.ChangeAt Go.RowKit Go.Joins Go.Deep Base
set_option linter.unusedVariables false
set_option linter.unusedSimpArgs false

/-- A list that grows in blocks at or above B. -/
structure GU {α : Type} [Cel α] (P : World → α → (Nat → Prop) → Prop) (t : TypeId) (b B : Nat) (W : World) (a : Option Addr) (cp : Nat) (xs : List α) : Prop where
  own : W.ownsRow B t (Cel.k α) (.slice a xs.length cp) xs.length (flat xs)
  fps : ∃ fp : Nat → Nat → Prop, (∀ (i : Nat) (h : i < xs.length), P W xs[i] (fp i)) ∧ (∀ i j, i ≠ j → ∀ x, fp i x → ¬ fp j x) ∧ ∀ i x, fp i x → i < xs.length ∧ B ≤ x ∧ x < W.heap.size ∧ (Value.slice a xs.length cp).ownBlock ≠ some x
  hb : b ≤ B
  hB : B ≤ W.heap.size
section
variable {α : Type} [Cel α] {P : World → α → (Nat → Prop) → Prop} {t : TypeId} {b B : Nat} {W W1 : World} {a : Option Addr} {cp : Nat} {xs : List α}
theorem GU.start (hb : b ≤ B) (hB : B ≤ W.heap.size) : GU (α := α) P t b B W none 0 [] :=
  ⟨World.ownsRow_nil _ _ _ _, ⟨fun _ _ => False, fun i h => by simp at h, fun _ _ _ _ h => h.elim, fun _ _ h => h.elim⟩, hb, hB⟩
theorem GU.offp (hP : Firm P) (h : GU P t b B W a cp xs) {T : Nat → Prop} (k : Offp T W W1) (hT : ∀ x, T x → x < b) : GU P t b B W1 a cp xs := by
  obtain ⟨own, ⟨fp, f1, f2, f3⟩, hb, hB⟩ := h
  exact ⟨owns_offp own k (fun y hy e => by have := (own.lt y hy).1; have := hT y e; omega), ⟨fp, fun i hi => hP _ _ _ _ _ (f1 i hi) k (fun y hy e => by have := (f3 i y hy).2.1; have := hT y e; omega), f2, fun i x hx => ⟨(f3 i x hx).1, (f3 i x hx).2.1, Nat.lt_of_lt_of_le (f3 i x hx).2.2.1 k.size, (f3 i x hx).2.2.2⟩⟩, hb, Nat.le_trans hB k.size⟩
theorem GU.app (hP : Firm P) {pg : Program} {ts : TypeId} {z : Value} {bytes : Nat} (hu : pg.underlying ts = some (.slice t)) (hinfo : (pg.info? t).map (fun i => (i.zero, i.size, i.bytes)) = some (some z, Cel.k α, bytes)) (hz : z.cells.size = Cel.k α) (hk : 0 < Cel.k α) (hby : bytes ≤ 1000)
    (h : GU P t b B W a cp xs) {T : Nat → Prop} (k : Offp T W W1) (hT : ∀ x, T x → x < b) (x : α) {S : Nat → Prop} (hy : P W1 x S) (hS : ∀ y, S y → W.heap.size ≤ y ∧ y < W1.heap.size) (cs : Array Value) (hcs : cs.toList = Cel.cs x) (hx : xs.length ≤ 2000000) :
    ∃ a2 c2 W2, (Builtin.append_ #[ts, ts] ts #[.slice a xs.length cp, .slice (some ⟨W1.heap.size, 0, none⟩) 1 1]).run pg (W1.alloc (.cells cs t)) = .ok (.slice a2 (xs.length + 1) c2) W2 ∧ GU P t b B W2 a2 c2 (xs ++ [x]) ∧ Offp (fun y => B ≤ y) (W1.alloc (.cells cs t)) W2 := by
  have h0 := h.offp hP k hT
  have hws := k.size
  have hown0 := h.own
  have hBW := h.hB
  have hfp0 := h.fps
  obtain ⟨own0, ⟨fp, f1, f2, f3'⟩, hb, hB⟩ := h0
  have f3 : ∀ i x, fp i x → i < xs.length ∧ B ≤ x ∧ x < W1.heap.size ∧ (Value.slice a xs.length cp).ownBlock ≠ some x := f3'
  have own1 := owns_alloc own0 (.cells cs t)
  have hX : At (W1.alloc (.cells cs t)) (some ⟨W1.heap.size, 0, none⟩) [x] := by
    refine .inr ⟨_, 0, rfl, by simp, fun j u hu => ?_⟩
    rw [flat_one, ← hcs] at hu
    rw [Nat.zero_add]
    exact (Blk.new W1 t cs).cell (by simpa using hu)
  obtain ⟨v', W2, hr, hown, hgrow, hob⟩ := append_els (P := pg) hu hinfo hz hk hby B (.slice a xs.length cp) xs [x] (some ⟨W1.heap.size, 0, none⟩) 1 _ (by simp; omega) own1 hX (by simp; omega)
  simp only [List.length_cons, List.length_nil, Nat.zero_add] at hown hr
  obtain ⟨a2, c2, rfl, _⟩ := owns_form hown
  have ko := offp_grown hgrow
  have hs2 : W1.heap.size + 1 ≤ W2.heap.size := by have := ko.size; simpa using this
  have hS' : ∀ y, (Value.slice a xs.length cp).ownBlock = some y → B ≤ y ∧ y < W.heap.size := fun y hy => hown0.lt y hy
  have kb : Offp (fun _ => False) W1 (W1.alloc (.cells cs t)) := Offp.of_below (alloc0 (Below.refl _ _) _)
  obtain ⟨fq, q1, q2, q3⟩ := hfp0
  refine ⟨a2, c2, W2, hr, ⟨by rw [List.length_append]; exact hown, ⟨fun i => if i = xs.length then S else fq i, ?_, ?_, ?_⟩, hb, by omega⟩, ko.mono (fun y e => (hS' y e).1)⟩
  · intro i hi
    by_cases e : i = xs.length
    · subst e
      simp only [if_true]
      rw [List.getElem_append_right (Nat.le_refl _)]
      simp only [Nat.sub_self, List.getElem_cons_zero]
      exact hP _ _ _ _ _ (hP _ _ _ _ _ hy kb (fun _ _ e => e)) ko (fun y hy e => by have := (hS y hy).1; have := (hS' y e).2; omega)
    · have hi' : i < xs.length := by simp at hi; omega
      simp only [if_neg e]
      rw [List.getElem_append_left hi']
      exact hP _ _ _ _ _ (hP _ _ _ _ _ (hP _ _ _ _ _ (q1 i hi') k (fun y hy e => by have := (q3 i y hy).2.1; have := hT y e; omega)) kb (fun _ _ e => e)) ko (fun y hy e => (q3 i y hy).2.2.2 e)
  · intro i j hij y hy' hy2
    by_cases e1 : i = xs.length
    · by_cases e2 : j = xs.length
      · omega
      · simp only [if_pos e1] at hy'
        simp only [if_neg e2] at hy2
        have := (hS y hy').1
        have := (q3 j y hy2).2.2.1
        omega
    · by_cases e2 : j = xs.length
      · simp only [if_neg e1] at hy'
        simp only [if_pos e2] at hy2
        have := (hS y hy2).1
        have := (q3 i y hy').2.2.1
        omega
      · simp only [if_neg e1] at hy'
        simp only [if_neg e2] at hy2
        exact q2 i j hij y hy' hy2
  · intro i y hy'
    have hob' : ∀ y, (Value.slice a xs.length cp).ownBlock ≠ some y → y < W1.heap.size → (Value.slice a2 (xs ++ [x]).length c2).ownBlock ≠ some y := by
      intro y hn hlt e
      rw [List.length_append] at e
      have e2 : (Value.slice a2 (xs.length + 1) c2).ownBlock = some y := e
      rcases hob with h' | h'
      · exact hn (h' ▸ e2)
      · rw [h'] at e2
        simp only [World.size_alloc, Option.some.injEq] at e2
        omega
    by_cases e1 : i = xs.length
    · simp only [if_pos e1] at hy'
      have hh := hS y hy'
      exact ⟨by simp; omega, by have := hown0; omega, by omega, hob' y (fun e => by have := (hS' y e).2; omega) hh.2⟩
    · simp only [if_neg e1] at hy'
      have hh := q3 i y hy'
      exact ⟨by simp; omega, hh.2.1, by omega, hob' y hh.2.2.2 (by omega)⟩
theorem GU.toOwn (h : GU P t b B W a cp xs) : Own P W a xs (fun b => B ≤ b ∧ b < W.heap.size) := by
  obtain ⟨own, ⟨fp, f1, f2, f3⟩, hb, hB⟩ := h
  rcases owns_sub own with e | ⟨b, o, e, hb, hlt, hi, ht⟩
  · exact .inl e
  · refine .inr ⟨b, o, fp, e, hb, fun i x hx => ⟨(f3 i x hx).2.1, (f3 i x hx).2.2.1⟩, ⟨hlt, hi, ht, f1, f2, fun i hx => (f3 i b hx).2.2.2 ?_⟩⟩
    rw [e]
    rfl
end

/-- A keeper under way: the list that grows now, and what was read before (Pk). -/
structure KU {α : Type} [Cel α] (P : World → α → (Nat → Prop) → Prop) (t : TypeId) (Pk : World → Prop) (B : Nat) (w W : World) (r : Nat) (A : Option Addr) (cap : Nat) (l : List UInt8) (o : Option Int) (vs : Array Value) (a : Option Addr) (cp : Nat) (xs : List α) : Prop where
  cb : CB w W r A cap l o
  box : Blk W (w.heap.size + 1) 31 vs
  res : Blk W w.heap.size 31 #[.slice none 0 0, .slice none 0 0, .slice none 0 0, .int .i64 0, .slice none 0 0, .slice none 0 0]
  gu : GU P t (w.heap.size + 2) B W a cp xs
  pk : Pk W
  stay : Stay (w.heap.size + 2) B Pk
section
variable {α : Type} [Cel α] {P : World → α → (Nat → Prop) → Prop} {t : TypeId} {Pk : World → Prop} {B : Nat} {w W W1 : World} {r : Nat} {A : Option Addr} {cap : Nat} {l : List UInt8} {o o' : Option Int} {vs : Array Value} {a : Option Addr} {cp : Nat} {xs : List α}
theorem KU.call (hP : Firm P) (h : KU P t Pk B w W r A cap l o vs a cp xs) (k : Only r W W1) (c : CuO W1 r A cap l o') : KU P t Pk B w W1 r A cap l o' vs a cp xs := by
  have hlr := h.cb.lr
  exact ⟨h.cb.call k c, h.box.only k (by omega), h.res.only k (by omega), h.gu.offp hP (Offp.of_only k) (fun x e => by subst e; omega), h.stay _ _ _ h.pk (Offp.of_only k) (fun x e => by subst e; exact .inl (by omega)), h.stay⟩
theorem KU.round (hP : Firm P) {pg : Program} {ts : TypeId} {z : Value} {bytes : Nat} (hu : pg.underlying ts = some (.slice t)) (hinfo : (pg.info? t).map (fun i => (i.zero, i.size, i.bytes)) = some (some z, Cel.k α, bytes)) (hz : z.cells.size = Cel.k α) (hk : 0 < Cel.k α) (hby : bytes ≤ 1000)
    (h : KU P t Pk B w W r A cap l o vs a cp xs) (k : Only r W W1) (c : CuO W1 r A cap l o') (x : α) (hy : P W1 x (fun b => W.heap.size ≤ b ∧ b < W1.heap.size)) (cs : Array Value) (hcs : cs.toList = Cel.cs x) (hx : xs.length ≤ 2000000) (f : Nat) :
    ∃ a2 c2 W2, (Builtin.append_ #[ts, ts] ts #[.slice a xs.length cp, .slice (some ⟨W1.heap.size + 1, 0, none⟩) 1 1]).run pg ((W1.alloc (.cells cs t)).alloc (.cells cs t)) = .ok (.slice a2 (xs.length + 1) c2) W2 ∧ Blk W2 (w.heap.size + 1) 31 vs ∧ KU P t Pk B w (W2.setCell ⟨w.heap.size + 1, f, none⟩ (.slice a2 (xs.length + 1) c2)) r A cap l o' (vs.setIfInBounds f (.slice a2 (xs.length + 1) c2)) a2 c2 (xs ++ [x]) := by
  have hlr := h.cb.lr
  have hB := h.gu.hb
  have h1 := h.call hP k c
  have kk : Offp (fun y => y = r) W (W1.alloc (.cells cs t)) := (Offp.of_only k).below (alloc0 (Below.refl _ _) _)
  have kb : Offp (fun _ => False) W1 (W1.alloc (.cells cs t)) := Offp.of_below (alloc0 (Below.refl _ _) _)
  have kb2 : Offp (fun _ => False) (W1.alloc (.cells cs t)) ((W1.alloc (.cells cs t)).alloc (.cells cs t)) := Offp.of_below (alloc0 (Below.refl _ _) _)
  obtain ⟨a2, c2, W2, hr, hg, ko⟩ := h.gu.app hP hu hinfo hz hk hby kk (fun y e => by subst e; omega) x (hP _ _ _ _ _ hy kb (fun _ _ e => e)) (fun y hy => ⟨hy.1, by have := hy.2; simp; omega⟩) cs hcs hx
  rw [World.size_alloc] at hr
  have kc := Offp.of_only ((Only.refl (w.heap.size + 1) W2).set f (.slice a2 (xs.length + 1) c2))
  have b2 := ((h1.box.offp kb (fun e => e)).offp kb2 (fun e => e)).offp ko (by omega)
  refine ⟨a2, c2, W2, hr, b2, ⟨?_, b2.setAt f _, ?_, hg.offp hP kc (fun y e => by subst e; omega), ?_, h.stay⟩⟩
  · exact (((h1.cb.offp kb (fun y e => e.elim)).offp kb2 (fun y e => e.elim)).offp ko (fun y e => by omega)).offp kc (fun y e => by subst e; omega)
  · exact (((h1.res.offp kb (fun e => e)).offp kb2 (fun e => e)).offp ko (by omega)).offp kc (by show ¬ _ = _; omega)
  · exact h.stay _ _ _ (h.stay _ _ _ (h.stay _ _ _ (h.stay _ _ _ h1.pk kb (fun _ e => e.elim)) kb2 (fun _ e => e.elim)) ko (fun y e => .inr e)) kc (fun y e => by subst e; exact .inl (by omega))
/-- The next list begins. -/
theorem KU.next {β : Type} [Cel β] {Q : World → β → (Nat → Prop) → Prop} {u : TypeId} (hP : Firm P) (h : KU P t Pk B w W r A cap l o vs a cp xs) : KU (α := β) Q u (fun V => Pk V ∧ Own P V a xs (fun b => B ≤ b ∧ b < W.heap.size)) W.heap.size w W r A cap l o vs none 0 [] := by
  have hb := h.gu.hb
  have hB := h.gu.hB
  refine ⟨h.cb, h.box, h.res, GU.start (by omega) (Nat.le_refl _), ⟨h.pk, h.gu.toOwn⟩, ?_⟩
  intro V V' T hp k hT
  refine ⟨h.stay V V' T hp.1 k (fun x e => by have := hT x e; omega), hp.2.offp hP k (fun x hx e => by have := hT x e; omega)⟩
end

/-- A keeper under way, its first four fields read: the two lists that grow. -/
structure KV (Pk : World → Prop) (B : Nat) (w W : World) (r : Nat) (A : Option Addr) (cap : Nat) (l : List UInt8) (o : Option Int) (v0 v1 v2 v3 : Value) (a1 : Option Addr) (c1 : Nat) (ms : List Int) (a2 : Option Addr) (c2 : Nat) (bs : List An) : Prop where
  cb : CB w W r A cap l o
  box : Blk W (w.heap.size + 1) 31 #[v0, v1, v2, v3, .slice a1 ms.length c1, .slice a2 bs.length c2]
  res : Blk W w.heap.size 31 #[.slice none 0 0, .slice none 0 0, .slice none 0 0, .int .i64 0, .slice none 0 0, .slice none 0 0]
  o1 : W.ownsRow B 3 1 (.slice a1 ms.length c1) ms.length (flat ms)
  o2 : W.ownsRow B 77 4 (.slice a2 bs.length c2) bs.length (flat bs)
  dis : ∀ x, (Value.slice a1 ms.length c1).ownBlock = some x → (Value.slice a2 bs.length c2).ownBlock ≠ some x
  pk : Pk W
  stay : Stay (w.heap.size + 2) B Pk
  hB : w.heap.size + 2 ≤ B
  hB' : B ≤ W.heap.size
section
variable {Pk : World → Prop} {B : Nat} {w W W1 : World} {r : Nat} {A : Option Addr} {cap : Nat} {l : List UInt8} {o o' : Option Int} {v0 v1 v2 v3 : Value} {a1 : Option Addr} {c1 : Nat} {ms : List Int} {a2 : Option Addr} {c2 : Nat} {bs : List An}
theorem KV.call (h : KV Pk B w W r A cap l o v0 v1 v2 v3 a1 c1 ms a2 c2 bs) (k : Only r W W1) (c : CuO W1 r A cap l o') : KV Pk B w W1 r A cap l o' v0 v1 v2 v3 a1 c1 ms a2 c2 bs := by
  have hlr := h.cb.lr
  have hB := h.hB
  exact ⟨h.cb.call k c, h.box.only k (by omega), h.res.only k (by omega), owns_only' h.o1 k (by omega), owns_only' h.o2 k (by omega), h.dis, h.stay _ _ _ h.pk (Offp.of_only k) (fun x e => by subst e; exact .inl (by omega)), h.stay, h.hB, Nat.le_trans h.hB' k.size⟩
/-- Blocks behind turn. -/
theorem KV.far (h : KV Pk B w W r A cap l o v0 v1 v2 v3 a1 c1 ms a2 c2 bs) {T : Nat → Prop} (k : Offp T W W1) (hT : ∀ x, T x → B ≤ x) (h1 : ∀ y, (Value.slice a1 ms.length c1).ownBlock = some y → ¬ T y) (h2 : ∀ y, (Value.slice a2 bs.length c2).ownBlock = some y → ¬ T y) : KV Pk B w W1 r A cap l o v0 v1 v2 v3 a1 c1 ms a2 c2 bs := by
  have hB := h.hB
  exact ⟨h.cb.offp k (fun x e => by have := hT x e; omega), h.box.offp k (fun e => by have := hT _ e; omega), h.res.offp k (fun e => by have := hT _ e; omega), owns_offp h.o1 k h1, owns_offp h.o2 k h2, h.dis, h.stay _ _ _ h.pk k (fun x e => .inr (hT x e)), h.stay, h.hB, Nat.le_trans h.hB' k.size⟩
theorem KV.app1 (h : KV Pk B w W r A cap l o v0 v1 v2 v3 a1 c1 ms a2 c2 bs) (x : Int) (hx : ms.length ≤ 2000000) :
    ∃ a' c' W2, (Builtin.append_ #[28, 28] 28 #[.slice a1 ms.length c1, .slice (some ⟨W.heap.size, 0, none⟩) 1 1]).run Tryz.prog (W.alloc (.cells #[.int .i64 x] 3)) = .ok (.slice a' (ms.length + 1) c') W2 ∧ Blk W2 (w.heap.size + 1) 31 #[v0, v1, v2, v3, .slice a1 ms.length c1, .slice a2 bs.length c2] ∧ Offp (fun y => (Value.slice a1 ms.length c1).ownBlock = some y) (W.alloc (.cells #[.int .i64 x] 3)) W2 ∧ KV Pk B w (W2.setCell ⟨w.heap.size + 1, 4, none⟩ (.slice a' (ms.length + 1) c')) r A cap l o v0 v1 v2 v3 a' c' (ms ++ [x]) a2 c2 bs := by
  have hlr := h.cb.lr
  have hB := h.hB
  have hB2 := h.hB'
  have own1 := owns_alloc h.o1 (.cells #[.int .i64 x] 3)
  have hX : At (W.alloc (.cells #[.int .i64 x] 3)) (some ⟨W.heap.size, 0, none⟩) [x] := by
    refine .inr ⟨_, 0, rfl, by simp, fun j u hu => ?_⟩
    rw [flat_one] at hu
    rw [Nat.zero_add]
    exact (Blk.new W 3 #[.int .i64 x]).cell (by simpa [Cel.cs] using hu)
  obtain ⟨v', W2, hr, hown, hgrow, hob⟩ := append_els (α := Int) (P := Tryz.prog) (z := .int .i64 0) Tryz.underlying28 infoInt rfl (by decide) (by decide) B (.slice a1 ms.length c1) ms [x] (some ⟨W.heap.size, 0, none⟩) 1 _ (by simp; omega) own1 hX (by simp; omega)
  simp only [List.length_cons, List.length_nil, Nat.zero_add] at hown hr
  obtain ⟨a', c', rfl, _⟩ := owns_form hown
  have ko := offp_grown hgrow
  have hs2 : W.heap.size + 1 ≤ W2.heap.size := by have := ko.size; simpa using this
  have hS : ∀ y, (Value.slice a1 ms.length c1).ownBlock = some y → B ≤ y ∧ y < W.heap.size := fun y hy => h.o1.lt y hy
  have kc := Offp.of_only ((Only.refl (w.heap.size + 1) W2).set 4 (.slice a' (ms.length + 1) c'))
  have b2 := (h.box.alloc (.cells #[.int .i64 x] 3)).offp ko (fun e => by have := (hS _ e).1; omega)
  refine ⟨a', c', W2, hr, b2, ko, ⟨?_, ?_, ?_, ?_, ?_, ?_, ?_, h.stay, h.hB, ?_⟩⟩
  · exact ((h.cb.below (alloc0 (Below.refl _ _) _)).offp ko (fun y e => by have := (hS y e).1; omega)).offp kc (fun y e => by subst e; omega)
  · have := b2.setAt 4 (.slice a' (ms.length + 1) c')
    rw [List.length_append]
    exact this
  · exact ((h.res.alloc _).offp ko (fun e => by have := (hS _ e).1; omega)).other (by omega) _ _
  · have hq := owns_set (C := w.heap.size + 1) (i := 4) (u := .slice a' (ms.length + 1) c') hown (owns_far hown (by omega))
    rw [List.length_append]
    exact hq
  · exact owns_set (owns_offp (owns_alloc h.o2 _) ko (fun y e e' => h.dis y e' e)) (owns_far h.o2 (by omega))
  · intro y e e'
    rw [List.length_append] at e
    rcases hob with h' | h'
    · exact h.dis y (h' ▸ e) e'
    · have e2 : (Value.slice a' (ms.length + 1) c').ownBlock = some y := e
      rw [h'] at e2
      simp only [World.size_alloc, Option.some.injEq] at e2
      have := (h.o2.lt y e').2
      omega
  · exact h.stay _ _ _ (h.stay _ _ _ (h.stay _ _ _ h.pk (Offp.of_below (S := fun _ => False) (alloc0 (Below.refl _ _) _)) (fun _ e => e.elim)) ko (fun y e => .inr (hS y e).1)) kc (fun y e => by subst e; exact .inl (by omega))
  · have := kc.size; omega
theorem KV.app2 (h : KV Pk B w W r A cap l o v0 v1 v2 v3 a1 c1 ms a2 c2 bs) (x : An) (hx : bs.length ≤ 2000000) :
    ∃ a' c' W2, (Builtin.append_ #[29, 29] 29 #[.slice a2 bs.length c2, .slice (some ⟨W.heap.size, 0, none⟩) 1 1]).run Tryz.prog (W.alloc (.cells #[.int .i64 x.code, .int .i64 x.n, .string x.key, .string x.text] 77)) = .ok (.slice a' (bs.length + 1) c') W2 ∧ Blk W2 (w.heap.size + 1) 31 #[v0, v1, v2, v3, .slice a1 ms.length c1, .slice a2 bs.length c2] ∧ Offp (fun y => (Value.slice a2 bs.length c2).ownBlock = some y) (W.alloc (.cells #[.int .i64 x.code, .int .i64 x.n, .string x.key, .string x.text] 77)) W2 ∧ KV Pk B w (W2.setCell ⟨w.heap.size + 1, 5, none⟩ (.slice a' (bs.length + 1) c')) r A cap l o v0 v1 v2 v3 a1 c1 ms a' c' (bs ++ [x]) := by
  have hlr := h.cb.lr
  have hB := h.hB
  have hB2 := h.hB'
  have own1 := owns_alloc h.o2 (.cells #[.int .i64 x.code, .int .i64 x.n, .string x.key, .string x.text] 77)
  have hX : At (W.alloc (.cells #[.int .i64 x.code, .int .i64 x.n, .string x.key, .string x.text] 77)) (some ⟨W.heap.size, 0, none⟩) [x] := by
    refine .inr ⟨_, 0, rfl, by simp, fun j u hu => ?_⟩
    rw [flat_one] at hu
    rw [Nat.zero_add]
    exact (Blk.new W 77 #[.int .i64 x.code, .int .i64 x.n, .string x.key, .string x.text]).cell (by simpa [Cel.cs] using hu)
  obtain ⟨v', W2, hr, hown, hgrow, hob⟩ := append_els (α := An) (P := Tryz.prog) (z := .agg #[.int .i64 0, .int .i64 0, .string ⟨#[]⟩, .string ⟨#[]⟩]) Tryz.underlying29 infoAn rfl (by decide) (by decide) B (.slice a2 bs.length c2) bs [x] (some ⟨W.heap.size, 0, none⟩) 1 _ (by simp; omega) own1 hX (by simp; omega)
  simp only [List.length_cons, List.length_nil, Nat.zero_add] at hown hr
  obtain ⟨a', c', rfl, _⟩ := owns_form hown
  have ko := offp_grown hgrow
  have hs2 : W.heap.size + 1 ≤ W2.heap.size := by have := ko.size; simpa using this
  have hS : ∀ y, (Value.slice a2 bs.length c2).ownBlock = some y → B ≤ y ∧ y < W.heap.size := fun y hy => h.o2.lt y hy
  have kc := Offp.of_only ((Only.refl (w.heap.size + 1) W2).set 5 (.slice a' (bs.length + 1) c'))
  have b2 := (h.box.alloc (.cells #[.int .i64 x.code, .int .i64 x.n, .string x.key, .string x.text] 77)).offp ko (fun e => by have := (hS _ e).1; omega)
  refine ⟨a', c', W2, hr, b2, ko, ⟨?_, ?_, ?_, ?_, ?_, ?_, ?_, h.stay, h.hB, ?_⟩⟩
  · exact ((h.cb.below (alloc0 (Below.refl _ _) _)).offp ko (fun y e => by have := (hS y e).1; omega)).offp kc (fun y e => by subst e; omega)
  · have := b2.setAt 5 (.slice a' (bs.length + 1) c')
    rw [List.length_append]
    exact this
  · exact ((h.res.alloc _).offp ko (fun e => by have := (hS _ e).1; omega)).other (by omega) _ _
  · exact owns_set (owns_offp (owns_alloc h.o1 _) ko (fun y e e' => h.dis y e e')) (owns_far h.o1 (by omega))
  · have hq := owns_set (C := w.heap.size + 1) (i := 5) (u := .slice a' (bs.length + 1) c') hown (owns_far hown (by omega))
    rw [List.length_append]
    exact hq
  · intro y e e'
    rw [List.length_append] at e'
    rcases hob with h' | h'
    · exact h.dis y e (h' ▸ e')
    · have e2 : (Value.slice a' (bs.length + 1) c').ownBlock = some y := e'
      rw [h'] at e2
      simp only [World.size_alloc, Option.some.injEq] at e2
      have := (h.o1.lt y e).2
      omega
  · exact h.stay _ _ _ (h.stay _ _ _ (h.stay _ _ _ h.pk (Offp.of_below (S := fun _ => False) (alloc0 (Below.refl _ _) _)) (fun _ e => e.elim)) ko (fun y e => .inr (hS y e).1)) kc (fun y e => by subst e; exact .inl (by omega))
  · have := kc.size; omega
end

def elDl (l : List UInt8) (o : Option Int) : Int × An := ((nV (nS l o) : Int), ⟨(nV (nS l (nO (nS l o))) : Int), (nV (nS l (nO (nS l (nO (nS l o))))) : Int) - 1, tV (tS l (nO (nS l (nO (nS l (nO (nS l o))))))), tV (tS l (nO (tS l (nO (nS l (nO (nS l (nO (nS l o)))))))))⟩)
def stDl (l : List UInt8) (o : Option Int) : Option Int := nO (tS l (nO (tS l (nO (nS l (nO (nS l (nO (nS l o)))))))))
theorem stpDl (l : List UInt8) : Stp (getDl l) (elDl l) (stDl l) := by
  intro c
  cases h1 : getN l (c : Int) with
  | none => exact .inl ⟨by simp [getDl, h1], by simp [stDl, nS, tS, nO, h1]⟩
  | some p1 =>
  obtain ⟨n1, c1⟩ := p1
  cases h2 : getN l (c1 : Int) with
  | none => exact .inl ⟨by simp [getDl, getAn, h1, h2], by simp [stDl, nS, tS, nO, h1, h2]⟩
  | some p2 =>
  obtain ⟨n2, c2⟩ := p2
  cases h3 : getN l (c2 : Int) with
  | none => exact .inl ⟨by simp [getDl, getAn, h1, h2, h3], by simp [stDl, nS, tS, nO, h1, h2, h3]⟩
  | some p3 =>
  obtain ⟨n3, c3⟩ := p3
  cases h4 : getT l (c3 : Int) with
  | none => exact .inl ⟨by simp [getDl, getAn, h1, h2, h3, h4], by simp [stDl, nS, tS, nO, h1, h2, h3, h4]⟩
  | some p4 =>
  obtain ⟨n4, c4⟩ := p4
  cases h5 : getT l (c4 : Int) with
  | none => exact .inl ⟨by simp [getDl, getAn, h1, h2, h3, h4, h5], by simp [stDl, nS, tS, nO, h1, h2, h3, h4, h5]⟩
  | some p5 =>
  obtain ⟨n5, c5⟩ := p5
  exact .inr ⟨c5, by simp [getDl, getAn, elDl, nS, tS, nO, nV, tV, h1, h2, h3, h4, h5], by simp [stDl, nS, tS, nO, h1, h2, h3, h4, h5]⟩
theorem map_none {α : Type} {x : α} {o : Option Int} (h : none = o.map fun c => (x, c.toNat)) : o = none := by
  cases o with
  | none => rfl
  | some d => cases h
theorem linkKp (R : Nat) (l : List UInt8) (c : Nat) (rs : List PR) (ms : List PM) (gs : List PG) (ps : List (Int × An)) (o1 o2 o3 o5 : Option Int) (p1 : ∀ c, o1 = some c → 0 ≤ c) (p2 : ∀ c, o2 = some c → 0 ≤ c) (p3 : ∀ c, o3 = some c → 0 ≤ c)
    (hA : gl l (getRw l) (some (c : Int)) = o1.map fun c => (rs, c.toNat)) (hB : gl l (getMr l) o1 = o2.map fun c => (ms, c.toNat)) (hC : gl l (getGr R l) o2 = o3.map fun c => (gs, c.toNat)) (hD : ((nO (nS l o3)).bind fun c => getMany (getDl l) 4 c.toNat) = o5.map fun c => (ps, c.toNat)) :
    getKp R l (c : Int) = o5.map fun d => (⟨rs, ms, gs, (nV (nS l o3) : Int), ps.map Prod.fst, ps.map Prod.snd⟩, d.toNat) := by
  unfold getKp
  have hA' : getList l (getRw l) (c : Int) = o1.map fun c => (rs, c.toNat) := hA
  rw [hA']
  cases o1 with
  | none =>
    have e2 := map_none (show none = _ from hB)
    subst e2
    have e3 := map_none (show none = _ from hC)
    subst e3
    have e5 := map_none (show none = _ from hD)
    subst e5
    rfl
  | some d1 =>
  have t1 : ((d1.toNat : Nat) : Int) = d1 := Int.toNat_of_nonneg (p1 d1 rfl)
  have hB' : getList l (getMr l) d1 = o2.map fun c => (ms, c.toNat) := hB
  simp only [Option.map_some, t1]
  rw [hB']
  cases o2 with
  | none =>
    have e3 := map_none (show none = _ from hC)
    subst e3
    have e5 := map_none (show none = _ from hD)
    subst e5
    rfl
  | some d2 =>
  have t2 : ((d2.toNat : Nat) : Int) = d2 := Int.toNat_of_nonneg (p2 d2 rfl)
  have hC' : getList l (getGr R l) d2 = o3.map fun c => (gs, c.toNat) := hC
  simp only [Option.map_some, t2]
  rw [hC']
  cases o3 with
  | none =>
    have e5 := map_none (show none = _ from hD)
    subst e5
    rfl
  | some d3 =>
  have t3 : ((d3.toNat : Nat) : Int) = d3 := Int.toNat_of_nonneg (p3 d3 rfl)
  simp only [Option.map_some, t3]
  cases h4 : getN l d3 with
  | none =>
    have e : nS l (some d3) = none := h4
    rw [e] at hD
    have e5 := map_none (show none = _ from hD)
    subst e5
    rfl
  | some p =>
  obtain ⟨n4, c4⟩ := p
  have e : nS l (some d3) = some (n4, c4) := h4
  rw [e] at hD
  have hD' : getMany (getDl l) 4 c4 = o5.map fun c => (ps, c.toNat) := by simpa [nO] using hD
  simp only []
  rw [hD', e]
  cases o5 with
  | none => rfl
  | some d5 => rfl
end Go.Proofs.YtjjbbkmedpfenaaGreat.Gen
