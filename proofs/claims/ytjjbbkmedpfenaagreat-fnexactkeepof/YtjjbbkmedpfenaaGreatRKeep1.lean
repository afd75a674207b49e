/-
  A keeper under way in the program's reader: its box, the two lists that grow. Condition: at most 1048576 bytes.
-/
import Derived.Test.YtjjbbkmedpfenaaGreatRGpL
import Derived.Test.YtjjbbkmedpfenaaGreatKeepV
namespace Go.Proofs.YtjjbbkmedpfenaaGreat.Gen
open Go.ChangeShapes Go.WideShapes Go.ChangeAt Go.RowKit Go.Joins Go.Deep Base
set_option linter.unusedVariables false
set_option linter.unusedSimpArgs false

/-- A number and an answer. -/
def getDl (l : List UInt8) (i : Int) : Option ((Int × An) × Nat) := match getN l i with | none => none | some (n1, c1) => match getAn l (c1 : Int) with | none => none | some (n2, c2) => some (((n1 : Int), n2), c2)
theorem getDl_le {l : List UInt8} {i : Nat} {x : Int × An} {c : Nat} (h : getDl l (i : Int) = some (x, c)) : i < c ∧ c ≤ l.length := by
  unfold getDl at h
  cases hx1 : getN l (i : Int) with
  | none => simp [hx1] at h
  | some p1 =>
  obtain ⟨n1, c1⟩ := p1
  have hl1 := getN_le hx1
  cases hx2 : getAn l (c1 : Int) with
  | none => simp [hx1, hx2] at h
  | some p2 =>
  obtain ⟨n2, c2⟩ := p2
  have hl2 := getAn_le hx2
  simp [hx1, hx2] at h
  omega
def getKp (rows : Nat) (l : List UInt8) (i : Int) : Option (PK × Nat) := match getList l (getRw l) i with | none => none | some (rs, c1) => match getList l (getMr l) (c1 : Int) with | none => none | some (ms, c2) => match getList l (getGr rows l) (c2 : Int) with | none => none | some (gs, c3) => match getN l (c3 : Int) with | none => none | some (t, c4) => match getMany (getDl l) 4 c4 with | none => none | some (ps, c5) => some (⟨rs, ms, gs, (t : Int), ps.map Prod.fst, ps.map Prod.snd⟩, c5)
/-- What stays while nothing turns but what lies below b or at or above B. -/
def Stay (b B : Nat) (Pk : World → Prop) : Prop := ∀ (W W' : World) (T : Nat → Prop), Pk W → Offp T W W' → (∀ x, T x → x < b ∨ B ≤ x) → Pk W'
/-- A keeper under way: v0, v1, v2 its first three lists (of which Pk speaks), some of its numbers and answers. -/
structure KR (Pk : World → Prop) (B : Nat) (w W : World) (r : Nat) (A : Option Addr) (cap : Nat) (l : List UInt8) (c : Nat) (v0 v1 v2 v3 : Value) (a1 : Option Addr) (c1 : Nat) (ms : List Int) (a2 : Option Addr) (c2 : Nat) (bs : List An) : Prop where
  rd : Rd W r A cap l (c : Int)
  only : Only r w W
  box : Blk W (w.heap.size + 1 + 1) 31 #[v0, v1, v2, v3, .slice a1 ms.length c1, .slice a2 bs.length c2]
  res : Blk W (w.heap.size + 1) 31 #[.slice none 0 0, .slice none 0 0, .slice none 0 0, .int .i64 0, .slice none 0 0, .slice none 0 0]
  o1 : W.ownsRow B 3 1 (.slice a1 ms.length c1) ms.length (flat ms)
  o2 : W.ownsRow B 77 4 (.slice a2 bs.length c2) bs.length (flat bs)
  dis : ∀ x, (Value.slice a1 ms.length c1).ownBlock = some x → (Value.slice a2 bs.length c2).ownBlock ≠ some x
  pk : Pk W
  stay : Stay (w.heap.size + 3) B Pk
  hB : w.heap.size + 3 ≤ B
  hB' : B ≤ W.heap.size
  lr : r < w.heap.size
  la : l = [] ∨ ∀ c o, A = some ⟨c, o, none⟩ → c < w.heap.size
section
variable {Pk : World → Prop} {B : Nat} {w W W1 : World} {r : Nat} {A : Option Addr} {cap : Nat} {l : List UInt8} {c d : Nat} {v0 v1 v2 v3 : Value} {a1 : Option Addr} {c1 : Nat} {ms : List Int} {a2 : Option Addr} {c2 : Nat} {bs : List An}
theorem KR.step (h : KR Pk B w W r A cap l c v0 v1 v2 v3 a1 c1 ms a2 c2 bs) (o : Only r W W1) (h1 : Rd W1 r A cap l (d : Int)) : KR Pk B w W1 r A cap l d v0 v1 v2 v3 a1 c1 ms a2 c2 bs := by
  have hlr := h.lr
  have hB := h.hB
  exact ⟨h1, only_trans h.only o, h.box.only o (by omega), h.res.only o (by omega), owns_only' h.o1 o (by omega), owns_only' h.o2 o (by omega), h.dis, h.stay _ _ _ h.pk (Offp.of_only o) (fun x e => by subst e; omega), h.stay, h.hB, Nat.le_trans h.hB' o.size, h.lr, h.la⟩
theorem KR.drew (h : KR Pk B w W r A cap l c v0 v1 v2 v3 a1 c1 ms a2 c2 bs) : KR Pk B w W.drew r A cap l c v0 v1 v2 v3 a1 c1 ms a2 c2 bs := by
  refine h.step ⟨rfl, rfl, rfl, Nat.le_refl _, fun _ _ _ => rfl⟩ (h.rd.below ⟨rfl, rfl, rfl, Nat.le_refl _, fun _ _ => rfl⟩)

theorem KR.app1 (h : KR Pk B w W r A cap l c v0 v1 v2 v3 a1 c1 ms a2 c2 bs) (x : Int) (hx : ms.length ≤ 2000000) :
    ∃ a' c' W2, (Builtin.append_ #[28, 28] 28 #[.slice a1 ms.length c1, .slice (some ⟨W.heap.size, 0, none⟩) 1 1]).run Tryz.prog (W.alloc (.cells #[.int .i64 x] 3)) = .ok (.slice a' (ms.length + 1) c') W2 ∧ Blk W2 (w.heap.size + 1 + 1) 31 #[v0, v1, v2, v3, .slice a1 ms.length c1, .slice a2 bs.length c2] ∧ KR Pk B w (W2.setCell ⟨w.heap.size + 1 + 1, 4, none⟩ (.slice a' (ms.length + 1) c')) r A cap l c v0 v1 v2 v3 a' c' (ms ++ [x]) a2 c2 bs := by
  have hlr := h.lr
  have hB := h.hB
  have hB2 := h.hB'
  have hws := h.only.size
  have own1 := owns_alloc h.o1 (.cells #[.int .i64 x] 3)
  have hX : At (W.alloc (.cells #[.int .i64 x] 3)) (some ⟨W.heap.size, 0, none⟩) [x] := by
    refine .inr ⟨_, 0, rfl, by simp, fun j u hu => ?_⟩
    rw [flat_one] at hu
    rw [Nat.zero_add]
    exact (Blk.new W 3 #[.int .i64 x]).cell (by simpa [Cel.cs] using hu)
  obtain ⟨v', W2, hr, hown, hgrow, hob⟩ := append_els (α := Int) (P := Tryz.prog) (z := .int .i64 0) Tryz.underlying28 infoInt rfl (by decide) (by decide) B (.slice a1 ms.length c1) ms [x] (some ⟨W.heap.size, 0, none⟩) 1 _ (by simp; omega) own1 hX (by simp; omega)
  simp only [List.length_cons, List.length_nil, Nat.zero_add] at hown hr
  obtain ⟨a', c', rfl, _⟩ := owns_form hown
  have ko := offp_grown hgrow
  have hs2 : W.heap.size + 1 ≤ W2.heap.size := by have := ko.size; simpa using this
  have hS : ∀ y, (Value.slice a1 ms.length c1).ownBlock = some y → B ≤ y ∧ y < W.heap.size := fun y hy => h.o1.lt y hy
  have hT : ∀ y, (Value.slice a2 bs.length c2).ownBlock = some y → B ≤ y ∧ y < W.heap.size := fun y hy => h.o2.lt y hy
  have kc := Offp.of_only ((Only.refl (w.heap.size + 1 + 1) W2).set 4 (.slice a' (ms.length + 1) c'))
  have b2 := (h.box.alloc (.cells #[.int .i64 x] 3)).offp ko (fun e => by have := (hS _ e).1; omega)
  refine ⟨a', c', W2, hr, b2, ⟨?_, ?_, ?_, ?_, ?_, ?_, ?_, ?_, h.stay, h.hB, ?_, h.lr, h.la⟩⟩
  · exact ((h.rd.below (alloc0 (Below.refl _ _) _)).offp ko (fun e => by have := (hS _ e).1; omega) (h.la.imp id fun f c o e e' => by have := f c o e; have := (hS _ e').1; omega)).offp kc (by show r ≠ _; omega) (h.la.imp id fun f c o e => by show c ≠ _; have := f c o e; omega)
  · exact only_offp (only_offp (h.only.below (alloc0 (Below.refl _ _) _)) ko (fun y e => by have := (hS y e).1; omega)) kc (fun y e => by subst e; omega)
  · have := b2.setAt 4 (.slice a' (ms.length + 1) c')
    rw [List.length_append]
    exact this
  · exact ((h.res.alloc _).offp ko (fun e => by have := (hS _ e).1; omega)).other (by omega) _ _
  · have hq := owns_set (C := w.heap.size + 1 + 1) (i := 4) (u := .slice a' (ms.length + 1) c') hown (owns_far hown (by omega))
    rw [List.length_append]
    exact hq
  · exact owns_set (owns_offp (owns_alloc h.o2 _) ko (fun y e e' => h.dis y e' e)) (owns_far h.o2 (by omega))
  · intro y e e'
    rw [List.length_append] at e
    rcases hob with h' | h'
    · exact h.dis y (h' ▸ e) e'
    · have e2 : (Value.slice a' (ms.length + 1) c').ownBlock = some y := e
      rw [h'] at e2
      simp only [World.size_alloc, Option.some.injEq] at e2
      have := (hT y e').2
      omega
  · exact h.stay _ _ _ (h.stay _ _ _ (h.stay _ _ _ h.pk (Offp.of_below (S := fun _ => False) (alloc0 (Below.refl _ _) _)) (fun _ e => e.elim)) ko (fun y e => .inr (hS y e).1)) kc (fun y e => by subst e; exact .inl (by omega))
  · have := kc.size; omega

theorem KR.app2 (h : KR Pk B w W r A cap l c v0 v1 v2 v3 a1 c1 ms a2 c2 bs) (x : An) (hx : bs.length ≤ 2000000) :
    ∃ a' c' W2, (Builtin.append_ #[29, 29] 29 #[.slice a2 bs.length c2, .slice (some ⟨W.heap.size, 0, none⟩) 1 1]).run Tryz.prog (W.alloc (.cells #[.int .i64 x.code, .int .i64 x.n, .string x.key, .string x.text] 77)) = .ok (.slice a' (bs.length + 1) c') W2 ∧ Blk W2 (w.heap.size + 1 + 1) 31 #[v0, v1, v2, v3, .slice a1 ms.length c1, .slice a2 bs.length c2] ∧ KR Pk B w (W2.setCell ⟨w.heap.size + 1 + 1, 5, none⟩ (.slice a' (bs.length + 1) c')) r A cap l c v0 v1 v2 v3 a1 c1 ms a' c' (bs ++ [x]) := by
  have hlr := h.lr
  have hB := h.hB
  have hB2 := h.hB'
  have hws := h.only.size
  have own1 := owns_alloc h.o2 (.cells #[.int .i64 x.code, .int .i64 x.n, .string x.key, .string x.text] 77)
  have hX : At (W.alloc (.cells #[.int .i64 x.code, .int .i64 x.n, .string x.key, .string x.text] 77)) (some ⟨W.heap.size, 0, none⟩) [x] := by
    refine .inr ⟨_, 0, rfl, by simp, fun j u hu => ?_⟩
    rw [flat_one] at hu
    rw [Nat.zero_add]
    exact (Blk.new W 77 #[.int .i64 x.code, .int .i64 x.n, .string x.key, .string x.text]).cell (by simpa [Cel.cs] using hu)
  obtain ⟨v', W2, hr, hown, hgrow, hob⟩ := append_els (α := An) (P := Tryz.prog) (z := .agg #[.int .i64 0, .int .i64 0, .string ⟨#[]⟩, .string ⟨#[]⟩]) Tryz.underlying29 infoAn rfl (by decide) (by decide) B (.slice a2 bs.length c2) bs [x] (some ⟨W.heap.size, 0, none⟩) 1 _ (by simp; omega) own1 hX (by simp; omega)
  simp only [List.length_cons, List.length_nil, Nat.zero_add] at hown hr
  obtain ⟨a', c', rfl, _⟩ := owns_form hown
  have ko := offp_grown hgrow
  have hs2 : W.heap.size + 1 ≤ W2.heap.size := by have := ko.size; simpa using this
  have hS : ∀ y, (Value.slice a2 bs.length c2).ownBlock = some y → B ≤ y ∧ y < W.heap.size := fun y hy => h.o2.lt y hy
  have hT : ∀ y, (Value.slice a1 ms.length c1).ownBlock = some y → B ≤ y ∧ y < W.heap.size := fun y hy => h.o1.lt y hy
  have kc := Offp.of_only ((Only.refl (w.heap.size + 1 + 1) W2).set 5 (.slice a' (bs.length + 1) c'))
  have b2 := (h.box.alloc (.cells #[.int .i64 x.code, .int .i64 x.n, .string x.key, .string x.text] 77)).offp ko (fun e => by have := (hS _ e).1; omega)
  refine ⟨a', c', W2, hr, b2, ⟨?_, ?_, ?_, ?_, ?_, ?_, ?_, ?_, h.stay, h.hB, ?_, h.lr, h.la⟩⟩
  · exact ((h.rd.below (alloc0 (Below.refl _ _) _)).offp ko (fun e => by have := (hS _ e).1; omega) (h.la.imp id fun f c o e e' => by have := f c o e; have := (hS _ e').1; omega)).offp kc (by show r ≠ _; omega) (h.la.imp id fun f c o e => by show c ≠ _; have := f c o e; omega)
  · exact only_offp (only_offp (h.only.below (alloc0 (Below.refl _ _) _)) ko (fun y e => by have := (hS y e).1; omega)) kc (fun y e => by subst e; omega)
  · have := b2.setAt 5 (.slice a' (bs.length + 1) c')
    rw [List.length_append]
    exact this
  · exact ((h.res.alloc _).offp ko (fun e => by have := (hS _ e).1; omega)).other (by omega) _ _
  · exact owns_set (owns_offp (owns_alloc h.o1 _) ko (fun y e e' => h.dis y e e')) (owns_far h.o1 (by omega))
  · have hq := owns_set (C := w.heap.size + 1 + 1) (i := 5) (u := .slice a' (bs.length + 1) c') hown (owns_far hown (by omega))
    rw [List.length_append]
    exact hq
  · intro y e e'
    rw [List.length_append] at e'
    rcases hob with h' | h'
    · exact h.dis y e (h' ▸ e')
    · have e2 : (Value.slice a' (bs.length + 1) c').ownBlock = some y := e'
      rw [h'] at e2
      simp only [World.size_alloc, Option.some.injEq] at e2
      have := (hT y e).2
      omega
  · exact h.stay _ _ _ (h.stay _ _ _ (h.stay _ _ _ h.pk (Offp.of_below (S := fun _ => False) (alloc0 (Below.refl _ _) _)) (fun _ e => e.elim)) ko (fun y e => .inr (hS y e).1)) kc (fun y e => by subst e; exact .inl (by omega))
  · have := kc.size; omega
end
end Go.Proofs.YtjjbbkmedpfenaaGreat.Gen
