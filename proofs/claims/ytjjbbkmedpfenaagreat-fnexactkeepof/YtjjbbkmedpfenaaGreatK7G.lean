/-
  The specification's reader of a group: what it tells is what the program's tells, or the cursor is not right any more. Condition: at most 1048576 bytes.
-/
import Derived.Test.YtjjbbkmedpfenaaGreatK7R
import Derived.Test.YtjjbbkmedpfenaaGreatRMany
namespace Go.Proofs.YtjjbbkmedpfenaaGreat.Gen
open Go.ChangeShapes Go.WideShapes Go.ChangeAt Go.RowKit Go.Joins Go.Deep Base
set_option linter.unusedVariables false
set_option linter.unusedSimpArgs false

/-- What a reading by the specification's cursor has told. -/
def ToldS {α : Type} (is : α → Value → World → Prop) (get : Int → Option (α × Nat)) (r : Nat) (A : Option Addr) (cap : Nat) (l : List UInt8) (c0 : Nat) (w : World) (e : Ending) (w' : World) : Prop :=
  ∃ (x : α) (v : Value) (o' : Option Int), e = .returned v ∧ is x v w' ∧ Only r w w' ∧ CuO w' r A cap l o' ∧ Rel get c0 x o'
/-- The same for a loop that does not stop. -/
def LkN {α : Type} (get : Int → Option (α × Nat)) (g : Option (List α × Nat)) (n k : Nat) (xs : List α) (o : Option Int) : Prop :=
  (∃ c : Nat, o = some (c : Int) ∧ g = addTo xs (getMany get (n - k) c)) ∨ (o = none ∧ g = none)
theorem LkN.start {α : Type} (get : Int → Option (α × Nat)) (n : Nat) (o : Option Int) (hp : ∀ c, o = some c → 0 ≤ c) : LkN get (o.bind fun c => getMany get n c.toNat) n 0 [] o := by
  cases o with
  | none => exact .inr ⟨rfl, rfl⟩
  | some c =>
    refine .inl ⟨c.toNat, by have := hp c rfl; congr 1; omega, ?_⟩
    show getMany get n c.toNat = addTo [] (getMany get (n - 0) c.toNat)
    rw [Nat.sub_zero]
    cases getMany get n c.toNat <;> simp [addTo]
theorem LkN.step {α : Type} {get : Int → Option (α × Nat)} {el : Option Int → α} {st : Option Int → Option Int} (hs : Stp get el st) (h0 : st none = none) {g : Option (List α × Nat)} {n k : Nat} {xs : List α} {o : Option Int} (h : LkN get g n k xs o) (hk : k < n) : LkN get g n (k + 1) (xs ++ [el o]) (st o) := by
  rcases h with ⟨c, rfl, h⟩ | ⟨rfl, h⟩
  · obtain ⟨m, hm⟩ : ∃ m, n - k = m + 1 := ⟨n - k - 1, by omega⟩
    have hm' : n - (k + 1) = m := by omega
    rcases hs c with ⟨e1, e2⟩ | ⟨d, e1, e2⟩
    · exact .inr ⟨e2, by rw [h, hm]; exact many_none xs e1⟩
    · exact .inl ⟨d, e2, by rw [h, hm, hm']; exact many_some xs e1⟩
  · exact .inr ⟨h0, h⟩
theorem LkN.end {α : Type} {get : Int → Option (α × Nat)} {g : Option (List α × Nat)} {n : Nat} {xs : List α} {o : Option Int} (h : LkN get g n n xs o) : g = o.map fun c => (xs, c.toNat) := by
  rcases h with ⟨c, rfl, h⟩ | ⟨rfl, h⟩
  · rw [h, Nat.sub_self, many_end]; simp
  · rw [h]; rfl
theorem LkN.pos {α : Type} {get : Int → Option (α × Nat)} {g : Option (List α × Nat)} {n k : Nat} {xs : List α} {o : Option Int} (h : LkN get g n k xs o) : ∀ c, o = some c → 0 ≤ c := by
  rcases h with ⟨c', rfl, _⟩ | ⟨rfl, _⟩
  · intro c e; simp at e; omega
  · intro c e; cases e
def elPr (l : List UInt8) (o : Option Int) : Int × Int := ((nV (nS l o) : Int), (nV (nS l (nO (nS l o))) : Int))
def stPr (l : List UInt8) (o : Option Int) : Option Int := nO (nS l (nO (nS l o)))
theorem stpPr (l : List UInt8) : Stp (getPr l) (elPr l) (stPr l) := by
  intro c
  cases h1 : getN l (c : Int) with
  | none => exact .inl ⟨by simp [getPr, h1], by simp [stPr, nS, nO, h1]⟩
  | some p1 =>
  obtain ⟨v1, c1⟩ := p1
  cases h2 : getN l (c1 : Int) with
  | none => exact .inl ⟨by simp [getPr, h1, h2], by simp [stPr, nS, nO, h1, h2]⟩
  | some p2 =>
  obtain ⟨v2, c2⟩ := p2
  exact .inr ⟨c2, by simp [getPr, elPr, nS, nO, nV, h1, h2], by simp [stPr, nS, nO, h1, h2]⟩
def elIn (l : List UInt8) (o : Option Int) : Int := (nV (nS l o) : Int)
def stIn (l : List UInt8) (o : Option Int) : Option Int := nO (nS l o)
theorem stpIn (l : List UInt8) : Stp (getIn l) (elIn l) (stIn l) := by
  intro c
  cases h1 : getN l (c : Int) with
  | none => exact .inl ⟨by simp [getIn, h1], by simp [stIn, nS, nO, h1]⟩
  | some p1 =>
  obtain ⟨v1, c1⟩ := p1
  exact .inr ⟨c1, by simp [getIn, elIn, nS, nO, nV, h1], by simp [stIn, nS, nO, h1]⟩
theorem linkGr (rows : Nat) (l : List UInt8) (c : Nat) (ps : List (Int × Int)) (os : List Int) (o o' : Option Int) (h : gl l (getPr l) (nO (nS l (some (c : Int)))) = o.map fun c => (ps, c.toNat)) (h' : (o.bind fun c => getMany (getIn l) rows c.toNat) = o'.map fun c => (os, c.toNat)) : getGr rows l (c : Int) = o'.map fun d => (⟨(nV (nS l (some (c : Int))) : Int), ps.map Prod.fst, ps.map Prod.snd, os⟩, d.toNat) := by
  unfold getGr
  cases h1 : getN l (c : Int) with
  | none =>
    have e : gl l (getPr l) (nO (nS l (some (c : Int)))) = none := by simp [gl, nS, nO, h1]
    rw [e] at h
    cases o with
    | some d => cases h
    | none =>
    cases o' with
    | some d => cases h'
    | none => rfl
  | some p1 =>
  obtain ⟨v1, c1⟩ := p1
  have e : gl l (getPr l) (nO (nS l (some (c : Int)))) = getList l (getPr l) (c1 : Int) := by simp [gl, nS, nO, h1]
  rw [e] at h
  unfold getList at h
  simp only []
  cases h2 : getN l (c1 : Int) with
  | none =>
    rw [h2] at h
    cases o with
    | some d => cases h
    | none =>
    cases o' with
    | some d => cases h'
    | none => rfl
  | some p2 =>
  obtain ⟨v2, c2⟩ := p2
  rw [h2] at h
  simp only [] at h
  simp only []
  rw [h]
  cases o with
  | none =>
    cases o' with
    | some d => cases h'
    | none => rfl
  | some d =>
    have h3 : getMany (getIn l) rows d.toNat = o'.map fun c => (os, c.toNat) := h'
    show (match getMany (getIn l) rows d.toNat with | none => none | some (os, c4) => some ((⟨(v1 : Int), ps.map Prod.fst, ps.map Prod.snd, os⟩ : PG), c4)) = _
    rw [h3]
    cases o' with
    | none => rfl
    | some d' => simp [nS, nV, h1]

/-- A group under way: its box, its lists, each in a block of its own. -/
structure GS (w W : World) (r : Nat) (A : Option Addr) (cap : Nat) (l : List UInt8) (o : Option Int) (gen : Int) (a1 : Option Addr) (c1 : Nat) (x1 : List Int) (a2 : Option Addr) (c2 : Nat) (x2 : List Int) (a3 : Option Addr) (c3 : Nat) (x3 : List Int) : Prop where
  cb : CB w W r A cap l o
  box : Blk W (w.heap.size + 1) 74 #[.int .i64 gen, .slice a1 x1.length c1, .slice a2 x2.length c2, .slice a3 x3.length c3]
  res : Blk W w.heap.size 74 #[.int .i64 0, .slice none 0 0, .slice none 0 0, .slice none 0 0]
  o1 : W.ownsRow (w.heap.size + 2) 3 1 (.slice a1 x1.length c1) x1.length (flat x1)
  o2 : W.ownsRow (w.heap.size + 2) 3 1 (.slice a2 x2.length c2) x2.length (flat x2)
  o3 : W.ownsRow (w.heap.size + 2) 3 1 (.slice a3 x3.length c3) x3.length (flat x3)
  d12 : ∀ y, (Value.slice a1 x1.length c1).ownBlock = some y → (Value.slice a2 x2.length c2).ownBlock ≠ some y
  d13 : ∀ y, (Value.slice a1 x1.length c1).ownBlock = some y → (Value.slice a3 x3.length c3).ownBlock ≠ some y
  d23 : ∀ y, (Value.slice a2 x2.length c2).ownBlock = some y → (Value.slice a3 x3.length c3).ownBlock ≠ some y
section
variable {w W W1 : World} {r : Nat} {A : Option Addr} {cap : Nat} {l : List UInt8} {o o' : Option Int} {gen : Int} {a1 : Option Addr} {c1 : Nat} {x1 : List Int} {a2 : Option Addr} {c2 : Nat} {x2 : List Int} {a3 : Option Addr} {c3 : Nat} {x3 : List Int}
theorem GS.call (h : GS w W r A cap l o gen a1 c1 x1 a2 c2 x2 a3 c3 x3) (k : Only r W W1) (c : CuO W1 r A cap l o') : GS w W1 r A cap l o' gen a1 c1 x1 a2 c2 x2 a3 c3 x3 := by
  have hlr := h.cb.lr
  exact ⟨h.cb.call k c, h.box.only k (by omega), h.res.only k (by omega), owns_only' h.o1 k (by omega), owns_only' h.o2 k (by omega), owns_only' h.o3 k (by omega), h.d12, h.d13, h.d23⟩
theorem GS.app1 (h : GS w W r A cap l o gen a1 c1 x1 a2 c2 x2 a3 c3 x3) (x : Int) (hx : x1.length ≤ 2000000) :
    ∃ a' c' W2, (Builtin.append_ #[28, 28] 28 #[.slice a1 x1.length c1, .slice (some ⟨W.heap.size, 0, none⟩) 1 1]).run Tryz.prog (W.alloc (.cells #[.int .i64 x] 3)) = .ok (.slice a' (x1.length + 1) c') W2 ∧ Blk W2 (w.heap.size + 1) 74 #[.int .i64 gen, .slice a1 x1.length c1, .slice a2 x2.length c2, .slice a3 x3.length c3] ∧ GS w (W2.setCell ⟨w.heap.size + 1, 1, none⟩ (.slice a' (x1.length + 1) c')) r A cap l o gen a' c' (x1 ++ [x]) a2 c2 x2 a3 c3 x3 := by
  have hlr := h.cb.lr
  have hbx := h.box.lt
  have own1 := owns_alloc h.o1 (.cells #[.int .i64 x] 3)
  have hX : At (W.alloc (.cells #[.int .i64 x] 3)) (some ⟨W.heap.size, 0, none⟩) [x] := by
    refine .inr ⟨_, 0, rfl, by simp, fun j u hu => ?_⟩
    rw [flat_one] at hu
    rw [Nat.zero_add]
    exact (Blk.new W 3 #[.int .i64 x]).cell (by simpa [Cel.cs] using hu)
  obtain ⟨v', W2, hr, hown, hgrow, hob⟩ := append_els (α := Int) (P := Tryz.prog) (z := .int .i64 0) Tryz.underlying28 infoInt rfl (by decide) (by decide) (w.heap.size + 2) (.slice a1 x1.length c1) x1 [x] (some ⟨W.heap.size, 0, none⟩) 1 _ (by simp; omega) own1 hX (by simp; omega)
  simp only [List.length_cons, List.length_nil, Nat.zero_add] at hown hr
  obtain ⟨a', c', rfl, _⟩ := owns_form hown
  have ko := offp_grown hgrow
  have hS : ∀ y, (Value.slice a1 x1.length c1).ownBlock = some y → w.heap.size + 2 ≤ y ∧ y < W.heap.size := fun y hy => h.o1.lt y hy
  have kc := Offp.of_only ((Only.refl (w.heap.size + 1) W2).set 1 (.slice a' (x1.length + 1) c'))
  have b2 := (h.box.alloc (.cells #[.int .i64 x] 3)).offp ko (fun e => by have := (hS _ e).1; omega)
  refine ⟨a', c', W2, hr, b2, ⟨?_, ?_, ?_, ?_, ?_, ?_, ?_, ?_, ?_⟩⟩
  · exact ((h.cb.below (alloc0 (Below.refl _ _) _)).offp ko (fun y e => by have := (hS y e).1; omega)).offp kc (fun y e => by subst e; omega)
  · have := b2.setAt 1 (.slice a' (x1.length + 1) c')
    rw [List.length_append]
    exact this
  · exact ((h.res.alloc _).offp ko (fun e => by have := (hS _ e).1; omega)).other (by omega) _ _
  · have hq := owns_set (C := w.heap.size + 1) (i := 1) (u := .slice a' (x1.length + 1) c') hown (owns_far hown (by omega))
    rw [List.length_append]
    exact hq
  · exact owns_set (owns_offp (owns_alloc h.o2 _) ko (fun y e e' => h.d12 y e' e)) (owns_far h.o2 (by omega))
  · exact owns_set (owns_offp (owns_alloc h.o3 _) ko (fun y e e' => h.d13 y e' e)) (owns_far h.o3 (by omega))
  · intro y e e'
    rw [List.length_append] at e
    rcases hob with h' | h'
    · exact h.d12 y (h' ▸ e) e'
    · have e2 : (Value.slice a' (x1.length + 1) c').ownBlock = some y := e
      rw [h'] at e2
      simp only [World.size_alloc, Option.some.injEq] at e2
      have := (h.o2.lt y e').2
      omega
  · intro y e e'
    rw [List.length_append] at e
    rcases hob with h' | h'
    · exact h.d13 y (h' ▸ e) e'
    · have e2 : (Value.slice a' (x1.length + 1) c').ownBlock = some y := e
      rw [h'] at e2
      simp only [World.size_alloc, Option.some.injEq] at e2
      have := (h.o3.lt y e').2
      omega
  · exact h.d23
theorem GS.app2 (h : GS w W r A cap l o gen a1 c1 x1 a2 c2 x2 a3 c3 x3) (x : Int) (hx : x2.length ≤ 2000000) :
    ∃ a' c' W2, (Builtin.append_ #[28, 28] 28 #[.slice a2 x2.length c2, .slice (some ⟨W.heap.size, 0, none⟩) 1 1]).run Tryz.prog (W.alloc (.cells #[.int .i64 x] 3)) = .ok (.slice a' (x2.length + 1) c') W2 ∧ Blk W2 (w.heap.size + 1) 74 #[.int .i64 gen, .slice a1 x1.length c1, .slice a2 x2.length c2, .slice a3 x3.length c3] ∧ GS w (W2.setCell ⟨w.heap.size + 1, 2, none⟩ (.slice a' (x2.length + 1) c')) r A cap l o gen a1 c1 x1 a' c' (x2 ++ [x]) a3 c3 x3 := by
  have hlr := h.cb.lr
  have hbx := h.box.lt
  have own1 := owns_alloc h.o2 (.cells #[.int .i64 x] 3)
  have hX : At (W.alloc (.cells #[.int .i64 x] 3)) (some ⟨W.heap.size, 0, none⟩) [x] := by
    refine .inr ⟨_, 0, rfl, by simp, fun j u hu => ?_⟩
    rw [flat_one] at hu
    rw [Nat.zero_add]
    exact (Blk.new W 3 #[.int .i64 x]).cell (by simpa [Cel.cs] using hu)
  obtain ⟨v', W2, hr, hown, hgrow, hob⟩ := append_els (α := Int) (P := Tryz.prog) (z := .int .i64 0) Tryz.underlying28 infoInt rfl (by decide) (by decide) (w.heap.size + 2) (.slice a2 x2.length c2) x2 [x] (some ⟨W.heap.size, 0, none⟩) 1 _ (by simp; omega) own1 hX (by simp; omega)
  simp only [List.length_cons, List.length_nil, Nat.zero_add] at hown hr
  obtain ⟨a', c', rfl, _⟩ := owns_form hown
  have ko := offp_grown hgrow
  have hS : ∀ y, (Value.slice a2 x2.length c2).ownBlock = some y → w.heap.size + 2 ≤ y ∧ y < W.heap.size := fun y hy => h.o2.lt y hy
  have kc := Offp.of_only ((Only.refl (w.heap.size + 1) W2).set 2 (.slice a' (x2.length + 1) c'))
  have b2 := (h.box.alloc (.cells #[.int .i64 x] 3)).offp ko (fun e => by have := (hS _ e).1; omega)
  refine ⟨a', c', W2, hr, b2, ⟨?_, ?_, ?_, ?_, ?_, ?_, ?_, ?_, ?_⟩⟩
  · exact ((h.cb.below (alloc0 (Below.refl _ _) _)).offp ko (fun y e => by have := (hS y e).1; omega)).offp kc (fun y e => by subst e; omega)
  · have := b2.setAt 2 (.slice a' (x2.length + 1) c')
    rw [List.length_append]
    exact this
  · exact ((h.res.alloc _).offp ko (fun e => by have := (hS _ e).1; omega)).other (by omega) _ _
  · exact owns_set (owns_offp (owns_alloc h.o1 _) ko (fun y e e' => h.d12 y e e')) (owns_far h.o1 (by omega))
  · have hq := owns_set (C := w.heap.size + 1) (i := 2) (u := .slice a' (x2.length + 1) c') hown (owns_far hown (by omega))
    rw [List.length_append]
    exact hq
  · exact owns_set (owns_offp (owns_alloc h.o3 _) ko (fun y e e' => h.d23 y e' e)) (owns_far h.o3 (by omega))
  · intro y e e'
    rw [List.length_append] at e'
    rcases hob with h' | h'
    · exact h.d12 y e (h' ▸ e')
    · have e2 : (Value.slice a' (x2.length + 1) c').ownBlock = some y := e'
      rw [h'] at e2
      simp only [World.size_alloc, Option.some.injEq] at e2
      have := (h.o1.lt y e).2
      omega
  · exact h.d13
  · intro y e e'
    rw [List.length_append] at e
    rcases hob with h' | h'
    · exact h.d23 y (h' ▸ e) e'
    · have e2 : (Value.slice a' (x2.length + 1) c').ownBlock = some y := e
      rw [h'] at e2
      simp only [World.size_alloc, Option.some.injEq] at e2
      have := (h.o3.lt y e').2
      omega
theorem GS.app3 (h : GS w W r A cap l o gen a1 c1 x1 a2 c2 x2 a3 c3 x3) (x : Int) (hx : x3.length ≤ 2000000) :
    ∃ a' c' W2, (Builtin.append_ #[28, 28] 28 #[.slice a3 x3.length c3, .slice (some ⟨W.heap.size, 0, none⟩) 1 1]).run Tryz.prog (W.alloc (.cells #[.int .i64 x] 3)) = .ok (.slice a' (x3.length + 1) c') W2 ∧ Blk W2 (w.heap.size + 1) 74 #[.int .i64 gen, .slice a1 x1.length c1, .slice a2 x2.length c2, .slice a3 x3.length c3] ∧ GS w (W2.setCell ⟨w.heap.size + 1, 3, none⟩ (.slice a' (x3.length + 1) c')) r A cap l o gen a1 c1 x1 a2 c2 x2 a' c' (x3 ++ [x]) := by
  have hlr := h.cb.lr
  have hbx := h.box.lt
  have own1 := owns_alloc h.o3 (.cells #[.int .i64 x] 3)
  have hX : At (W.alloc (.cells #[.int .i64 x] 3)) (some ⟨W.heap.size, 0, none⟩) [x] := by
    refine .inr ⟨_, 0, rfl, by simp, fun j u hu => ?_⟩
    rw [flat_one] at hu
    rw [Nat.zero_add]
    exact (Blk.new W 3 #[.int .i64 x]).cell (by simpa [Cel.cs] using hu)
  obtain ⟨v', W2, hr, hown, hgrow, hob⟩ := append_els (α := Int) (P := Tryz.prog) (z := .int .i64 0) Tryz.underlying28 infoInt rfl (by decide) (by decide) (w.heap.size + 2) (.slice a3 x3.length c3) x3 [x] (some ⟨W.heap.size, 0, none⟩) 1 _ (by simp; omega) own1 hX (by simp; omega)
  simp only [List.length_cons, List.length_nil, Nat.zero_add] at hown hr
  obtain ⟨a', c', rfl, _⟩ := owns_form hown
  have ko := offp_grown hgrow
  have hS : ∀ y, (Value.slice a3 x3.length c3).ownBlock = some y → w.heap.size + 2 ≤ y ∧ y < W.heap.size := fun y hy => h.o3.lt y hy
  have kc := Offp.of_only ((Only.refl (w.heap.size + 1) W2).set 3 (.slice a' (x3.length + 1) c'))
  have b2 := (h.box.alloc (.cells #[.int .i64 x] 3)).offp ko (fun e => by have := (hS _ e).1; omega)
  refine ⟨a', c', W2, hr, b2, ⟨?_, ?_, ?_, ?_, ?_, ?_, ?_, ?_, ?_⟩⟩
  · exact ((h.cb.below (alloc0 (Below.refl _ _) _)).offp ko (fun y e => by have := (hS y e).1; omega)).offp kc (fun y e => by subst e; omega)
  · have := b2.setAt 3 (.slice a' (x3.length + 1) c')
    rw [List.length_append]
    exact this
  · exact ((h.res.alloc _).offp ko (fun e => by have := (hS _ e).1; omega)).other (by omega) _ _
  · exact owns_set (owns_offp (owns_alloc h.o1 _) ko (fun y e e' => h.d13 y e e')) (owns_far h.o1 (by omega))
  · exact owns_set (owns_offp (owns_alloc h.o2 _) ko (fun y e e' => h.d23 y e e')) (owns_far h.o2 (by omega))
  · have hq := owns_set (C := w.heap.size + 1) (i := 3) (u := .slice a' (x3.length + 1) c') hown (owns_far hown (by omega))
    rw [List.length_append]
    exact hq
  · exact h.d12
  · intro y e e'
    rw [List.length_append] at e'
    rcases hob with h' | h'
    · exact h.d13 y e (h' ▸ e')
    · have e2 : (Value.slice a' (x3.length + 1) c').ownBlock = some y := e'
      rw [h'] at e2
      simp only [World.size_alloc, Option.some.injEq] at e2
      have := (h.o1.lt y e).2
      omega
  · intro y e e'
    rw [List.length_append] at e'
    rcases hob with h' | h'
    · exact h.d23 y e (h' ▸ e')
    · have e2 : (Value.slice a' (x3.length + 1) c').ownBlock = some y := e'
      rw [h'] at e2
      simp only [World.size_alloc, Option.some.injEq] at e2
      have := (h.o2.lt y e).2
      omega
end
set_option maxRecDepth 100000 in
set_option maxHeartbeats 8000000 in
theorem l7Group_any (R : Nat) (hR : R ≤ 1000) (r : Nat) (A : Option Addr) (cap : Nat) (l : List UInt8) (hl : l.length ≤ 1048576) (c0 : Nat) (w : World) (h : CuO w r A cap l (some (c0 : Int))) :
    Calls Tryz.prog 39 #[.pointer (some ⟨r, 0, none⟩), .int .i64 (R : Int)] w fun e w' => ToldS (isGr w.heap.size) (getGr R l) r A cap l c0 w e w' := by
  have hr := h.far.1
  obtain ⟨o0, ho0⟩ : ∃ o0, some (c0 : Int) = o0 := ⟨_, rfl⟩
  have Ho0 := hidP ho0
  rw [ho0] at h
  clear ho0
  have px0 := Blk.new (w.alloc (.cells #[.int .i64 0, .slice none 0 0, .slice none 0 0, .slice none 0 0] 74)) 74 #[.int .i64 0, .slice none 0 0, .slice none 0 0, .slice none 0 0]
  have pr0 := (Blk.new w 74 #[.int .i64 0, .slice none 0 0, .slice none 0 0, .slice none 0 0]).alloc (.cells #[.int .i64 0, .slice none 0 0, .slice none 0 0, .slice none 0 0] 74)
  simp only [World.size_alloc] at px0
  have HC0 := hidP ((CB.start h).below (alloc0 (alloc0 (Below.refl _ w) (.cells #[.int .i64 0, .slice none 0 0, .slice none 0 0, .slice none 0 0] 74)) (.cells #[.int .i64 0, .slice none 0 0, .slice none 0 0, .slice none 0 0] 74)))
  have Hpx0 := hidP px0
  have Hpr0 := hidP pr0
  clear px0 pr0 h
  go_enter Tryz.func39, Tryz.ntmps39
  go_wp2_with fail
  refine (l7Num_any r A cap l hl o0 _ HC0.out.cu).mono ?_
  rintro e w1 ⟨rfl, k1, h1⟩
  have hb1 := nV_le l o0
  obtain ⟨gen, hgen⟩ : ∃ gen : Int, Hid (gen = (nV (nS l o0) : Int)) := ⟨_, rfl⟩
  have hgb : 0 ≤ gen ∧ gen ≤ 2147483647 := by have := hgen.out; omega
  rw [← hgen.out]
  have p1 : Blk w1 (w.heap.size + 1) 74 #[.int .i64 0, .slice none 0 0, .slice none 0 0, .slice none 0 0] := Hpx0.out.only k1 (by omega)
  have g1 := Hpr0.out.only k1 (by omega)
  have t1 : w1.cell? ⟨w.heap.size + 1, 0, none⟩ = some (.int .i64 0) := p1.cell (i := 0) rfl
  have f1 := p1.thaw 0
  have q1' := p1.lt
  have Hpx1 : Hid (Blk (w1.setCell ⟨w.heap.size + 1, 0, none⟩ (.int .i64 gen)) (w.heap.size + 1) 74 #[.int .i64 gen, .slice none 0 0, .slice none 0 0, .slice none 0 0]) := hidP (p1.setAt 0 (.int .i64 gen))
  have Hpr1 := hidP (g1.other (show w.heap.size ≠ w.heap.size + 1 by omega) 0 (.int .i64 gen))
  have HC1 := hidP ((HC0.out.call k1 h1).offp (Offp.of_only ((Only.refl (w.heap.size + 1) w1).set 0 (.int .i64 gen))) (fun x e => by subst e; omega))
  clear k1 h1 p1 g1 HC0 Hpx0 Hpr0 hb1
  go_wp2_with fail
  refine (l7Num_any r A cap l hl (nO (nS l o0)) _ HC1.out.cu).mono ?_
  rintro e w2 ⟨rfl, k2, h2⟩
  have hn2 := nV_le l (nO (nS l o0))
  have G0 : Hid (GS w w2 r A cap l (nO (nS l (nO (nS l o0)))) gen none 0 [] none 0 [] none 0 []) := ⟨HC1.out.call k2 h2, Hpx1.out.only k2 (by omega), Hpr1.out.only k2 (by omega), World.ownsRow_nil _ _ _ _, World.ownsRow_nil _ _ _ _, World.ownsRow_nil _ _ _ _, fun x e => by simp [Value.ownBlock] at e, fun x e => by simp [Value.ownBlock] at e, fun x e => by simp [Value.ownBlock] at e⟩
  have HL0 : Hid (LkG (getPr l) l.length (gl l (getPr l) (nO (nS l o0))) (nV (nS l (nO (nS l o0)))) 0 [] (nO (nS l (nO (nS l o0))))) := hidP (LkG.start l (getPr l) (nO (nS l o0)))
  obtain ⟨g0, hg0⟩ : ∃ g0, gl l (getPr l) (nO (nS l o0)) = g0 := ⟨_, rfl⟩
  rw [hg0] at HL0
  have HG0 := hidP hg0
  clear k2 h2 HC1 Hpx1 Hpr1 t1 f1 q1' hg0
  generalize nV (nS l (nO (nS l o0))) = n at *
  generalize nO (nS l (nO (nS l o0))) = oL at *
  go_wp2
  go_loopw [7] (fun v W => ∃ (k d1 d2 : Nat) (a1 a2 : Option Addr) (ps : List (Int × Int)) (o : Option Int), v = .int .i64 (k : Int) ∧ k ≤ n ∧ Hid (ps.length = k) ∧ Hid (GS w W r A cap l o gen a1 d1 (ps.map Prod.fst) a2 d2 (ps.map Prod.snd) none 0 []) ∧ Hid (LkG (getPr l) l.length g0 n k ps o)) (fun v _ => n - (intOf v).toNat)
  case atStart => exact ⟨0, 0, 0, none, none, [], oL, rfl, by omega, rfl, G0, HL0⟩
  case round =>
    clear G0 HL0
    obtain ⟨k, d1, d2, a1, a2, ps, o, rfl, hk, hxk, G, HLk⟩ := hrel
    have hklen := HLk.out.le
    obtain ⟨cok, crl⟩ := G.out.cb.ok
    obtain ⟨ms, hms⟩ : ∃ ms, Hid (ms = ps.map Prod.fst) := ⟨_, rfl⟩
    obtain ⟨bs, hbs⟩ : ∃ bs, Hid (bs = ps.map Prod.snd) := ⟨_, rfl⟩
    rw [← hms.out, ← hbs.out] at G
    by_cases hent : k < n ∧ o.isSome = true
    · obtain ⟨hkn, hos⟩ := hent
      have hkn' : (k : Int) < (n : Int) := by omega
      have hln1 : Hid (ms.length ≤ 2000000) := by show _ ≤ _; rw [hms.out]; have := hxk.out; simp; omega
      have hln2 : Hid (bs.length ≤ 2000000) := by show _ ≤ _; rw [hbs.out]; have := hxk.out; simp; omega
      obtain ⟨c, rfl⟩ := HLk.out.place hos
      have HLk' := hidP (HLk.out.next (fun i x d h => getPr_le h) ((stpPr l).rel c) hkn)
      have cok' : wr.cell? ⟨r, 2, none⟩ = some (.bool true) := cok
      clear cok HLk hklen
      go_wp2_with fail
      refine (l7Num_any r A cap l hl (some (c : Int)) _ G.out.cb.cu).mono ?_
      rintro e v1 ⟨rfl, k1, h1⟩
      have hb1 := nV_le l (some (c : Int))
      have G1 := hidP (G.out.call k1 h1)
      clear k1 h1 G cok' crl
      go_wp2_with fail
      refine (l7Num_any r A cap l hl (nO (nS l (some (c : Int)))) _ G1.out.cb.cu).mono ?_
      rintro e v2 ⟨rfl, k2, h2⟩
      have hb2 := nV_le l (nO (nS l (some (c : Int))))
      have G2 := hidP (G1.out.call k2 h2)
      have es : nO (nS l (nO (nS l (some (c : Int))))) = stPr l (some (c : Int)) := rfl
      have ee : elPr l (some (c : Int)) = ((nV (nS l (some (c : Int))) : Int), (nV (nS l (nO (nS l (some (c : Int))))) : Int)) := rfl
      rw [es] at G2
      rw [ee] at HLk'
      clear k2 h2 G1 es ee
      generalize nV (nS l (nO (nS l (some (c : Int))))) = y2 at *
      generalize nV (nS l (some (c : Int))) = y1 at *
      generalize stPr l (some (c : Int)) = s1 at *
      obtain ⟨a1', d1', X1, hr1, bx1, F1⟩ := G2.out.app1 (y1 : Int) hln1.out
      obtain ⟨a2', d2', X2, hr2, bx2, F2⟩ := F1.app2 (y2 : Int) hln2.out
      have hs1 : (X1.setCell ⟨w.heap.size + 1, 1, none⟩ (.slice a1' (ms.length + 1) d1')).heap.size = X1.heap.size := by simp
      rw [hs1] at hr2
      have b1 : v2.cell? ⟨w.heap.size + 1, 1, none⟩ = some (.slice a1 (List.length ms) d1) := G2.out.box.cell (i := 1) rfl
      have q1 := G2.out.box.lt
      have b1' : X1.cell? ⟨w.heap.size + 1, 1, none⟩ = some (.slice a1 (List.length ms) d1) := bx1.cell (i := 1) rfl
      have f1' := bx1.thaw 1
      have q1' := bx1.lt
      have b2 : X1.cell? ⟨w.heap.size + 1, 2, none⟩ = some (.slice a2 (List.length bs) d2) := bx1.cell (i := 2) rfl
      have b2' : X2.cell? ⟨w.heap.size + 1, 2, none⟩ = some (.slice a2 (List.length bs) d2) := bx2.cell (i := 2) rfl
      have f2' := bx2.thaw 2
      have q2' := bx2.lt
      have hxk2 : Hid ((ps ++ [((y1 : Int), (y2 : Int))]).length = k + 1) := by show _ = _; have := hxk.out; simp; omega
      have F3 : Hid (GS w (X2.setCell ⟨w.heap.size + 1, 2, none⟩ (.slice a2' (bs.length + 1) d2')) r A cap l s1 gen a1' d1' ((ps ++ [((y1 : Int), (y2 : Int))]).map Prod.fst) a2' d2' ((ps ++ [((y1 : Int), (y2 : Int))]).map Prod.snd) none 0 []) := by
        show GS _ _ _ _ _ _ _ _ _ _ _ _ _ _ _ _ _
        rw [List.map_append, List.map_append, ← hms.out, ← hbs.out]
        exact F2
      clear hs1 bx1 bx2 F1 F2 G2 hln1 hln2 hxk hms hbs
      go_wp2_with (at_builtin; first | refine wpList_append_is rfl _ _ _ rfl _ _ _ rfl rfl hr1 ?_ | refine wpList_append_is rfl _ _ _ rfl _ _ _ rfl rfl hr2 ?_)
      exact ⟨⟨k + 1, d1', d2', a1', a2', ps ++ [((y1 : Int), (y2 : Int))], s1, by go_num, by omega, hxk2, F3, HLk'⟩, by simp [intOf]; omega⟩
    · have hG := hidP (HLk.out.done hk hent)
      have hP := HLk.out.pos
      have hor : (¬ (k : Int) < (n : Int)) ∨ ((k : Int) < (n : Int) ∧ o.isSome = false) := by
        by_cases hkn : k < n
        · right
          refine ⟨by omega, ?_⟩
          cases hos : o.isSome with
          | false => rfl
          | true => exact absurd ⟨hkn, hos⟩ hent
        · left; omega
      clear hent HLk hklen hxk
      rcases hor with hkn | ⟨hkn, hos⟩
      · clear cok
        have HL2 : Hid (LkN (getIn l) (o.bind fun c => getMany (getIn l) R c.toNat) R 0 [] o) := hidP (LkN.start (getIn l) R o hP)
        obtain ⟨G2, hG2⟩ : ∃ G2, (o.bind fun c => getMany (getIn l) R c.toNat) = G2 := ⟨_, rfl⟩
        rw [hG2] at HL2
        have HG2 := hidP hG2
        clear hG2 hP
        go_wp2
        go_loopw [10] (fun v W => ∃ (k d3 : Nat) (a3 : Option Addr) (xs : List Int) (o' : Option Int), v = .int .i64 (k : Int) ∧ k ≤ R ∧ Hid (xs.length = k) ∧ Hid (GS w W r A cap l o' gen a1 d1 ms a2 d2 bs a3 d3 xs) ∧ Hid (LkN (getIn l) G2 R k xs o')) (fun v _ => R - (intOf v).toNat)
        case atStart => exact ⟨0, 0, none, [], o, rfl, by omega, rfl, G, HL2⟩
        case round =>
          clear G HL2
          obtain ⟨k, d3, a3, xs, o', rfl, hk, hxk, G, HLk⟩ := hrel
          by_cases hkR : k < R
          · have hkR' : (k : Int) < (R : Int) := by omega
            have HLk' := hidP (HLk.out.step (stpIn l) rfl hkR)
            clear HLk
            go_wp2_with fail
            refine (l7Num_any r A cap l hl o' _ G.out.cb.cu).mono ?_
            rintro e v1 ⟨rfl, k1, h1⟩
            have hb1 := nV_le l o'
            have G1 := hidP (G.out.call k1 h1)
            have ee : (nV (nS l o') : Int) = elIn l o' := rfl
            have hbe : 0 ≤ elIn l o' ∧ elIn l o' ≤ 2147483647 := by rw [← ee]; omega
            have es : nO (nS l o') = stIn l o' := rfl
            rw [es] at G1
            rw [ee]
            clear k1 h1 G ee hb1 es
            generalize elIn l o' = y1 at *
            generalize stIn l o' = s1 at *
            have hxl : xs.length ≤ 2000000 := by have := hxk.out; omega
            obtain ⟨a3', d3', X3, hr3, bx3, G3⟩ := G1.out.app3 y1 hxl
            have b3 : v1.cell? ⟨w.heap.size + 1, 3, none⟩ = some (.slice a3 (List.length xs) d3) := G1.out.box.cell (i := 3) rfl
            have q3 := G1.out.box.lt
            have b3' : X3.cell? ⟨w.heap.size + 1, 3, none⟩ = some (.slice a3 (List.length xs) d3) := bx3.cell (i := 3) rfl
            have f3' := bx3.thaw 3
            have q3' := bx3.lt
            have G4 := hidP G3
            have hxk2 : Hid ((xs ++ [y1]).length = k + 1) := by show _ = _; have := hxk.out; simp; omega
            clear G1 bx3 hxl G3 hxk
            go_wp2_with (at_builtin; refine wpList_append_is rfl _ _ _ rfl _ _ _ rfl rfl hr3 ?_)
            exact ⟨⟨k + 1, d3', a3', xs ++ [y1], s1, by go_num, by omega, hxk2, G4, HLk'⟩, by simp [intOf]; omega⟩
          · obtain rfl : k = R := by omega
            have HN : Hid (Rel (getGr k l) c0 (⟨gen, ms, bs, xs⟩ : PG) o') := by
              have e := Ho0.out
              subst e
              have h1 := HLk.out.end
              rw [← HG2.out] at h1
              have h2 := hG.out
              rw [← HG0.out] at h2
              have h3 := linkGr k l c0 ps xs o o' h2 h1
              rw [hgen.out, hms.out, hbs.out]
              exact Rel.of_map h3 HLk.out.pos
            clear HLk HG2 hG hgen hms hbs
            have bb := G.out.box
            have rr := G.out.res
            have M1 := G.out.o1
            have M2 := G.out.o2
            have M3 := G.out.o3
            have D12 := hidP G.out.d12
            have D13 := hidP G.out.d13
            have D23 := hidP G.out.d23
            have e0 : wr.cell? ⟨w.heap.size + 1, 0, none⟩ = some (Value.int .i64 gen) := bb.cell (i := 0) rfl
            have e1 : wr.cell? ⟨w.heap.size + 1, 1, none⟩ = some (Value.slice a1 (List.length ms) d1) := bb.cell (i := 1) rfl
            have e2 : wr.cell? ⟨w.heap.size + 1, 2, none⟩ = some (Value.slice a2 (List.length bs) d2) := bb.cell (i := 2) rfl
            have e3 : wr.cell? ⟨w.heap.size + 1, 3, none⟩ = some (Value.slice a3 (List.length xs) d3) := bb.cell (i := 3) rfl
            have qx := bb.lt
            have r0 : wr.cell? ⟨w.heap.size, 0, none⟩ = some (.int .i64 0) := rr.cell (i := 0) rfl
            have z0 := rr.thaw 0
            have r1 : wr.cell? ⟨w.heap.size, 1, none⟩ = some (.slice none 0 0) := rr.cell (i := 1) rfl
            have z1 := rr.thaw 1
            have r2 : wr.cell? ⟨w.heap.size, 2, none⟩ = some (.slice none 0 0) := rr.cell (i := 2) rfl
            have z2 := rr.thaw 2
            have r3 : wr.cell? ⟨w.heap.size, 3, none⟩ = some (.slice none 0 0) := rr.cell (i := 3) rfl
            have z3 := rr.thaw 3
            have qr := rr.lt
            have oA := (((((Only.refl w.heap.size wr).set 0 (Value.int .i64 gen)).set 1 (Value.slice a1 (List.length ms) d1)).set 2 (Value.slice a2 (List.length bs) d2)).set 3 (Value.slice a3 (List.length xs) d3))
            have HCz := hidP (G.out.cb.offp (Offp.of_only oA) (fun x e => by subst e; exact Nat.le_refl _))
            have N1 := hidP (owns_only' M1 oA (by omega))
            have N2 := hidP (owns_only' M2 oA (by omega))
            have N3 := hidP (owns_only' M3 oA (by omega))
            clear oA bb rr M1 M2 M3 G
            go_wp2
            refine bodyPost_ret (v := .agg #[Value.int .i64 gen, Value.slice a1 (List.length ms) d1, Value.slice a2 (List.length bs) d2, Value.slice a3 (List.length xs) d3]) (by simp [results, Tryz.results39, go_sem, r0, r1, r2, r3]) rfl ?_
            refine ⟨⟨gen, ms, bs, xs⟩, _, o', rfl, ⟨a1, d1, a2, d2, a3, d3, rfl, _, _, _, fun y hy => ?_, fun y hy => ?_, fun y hy => ?_, D12.out, D13.out, D23.out, owns_own N1.out, owns_own N2.out, owns_own N3.out⟩, HCz.out.only, HCz.out.cu, HN.out⟩
            · have := N1.out.lt y hy; exact ⟨by omega, this.2⟩
            · have := N2.out.lt y hy; exact ⟨by omega, this.2⟩
            · have := N3.out.lt y hy; exact ⟨by omega, this.2⟩

      · rw [hos] at cok
        have HL2 : Hid (LkN (getIn l) (o.bind fun c => getMany (getIn l) R c.toNat) R 0 [] o) := hidP (LkN.start (getIn l) R o hP)
        obtain ⟨G2, hG2⟩ : ∃ G2, (o.bind fun c => getMany (getIn l) R c.toNat) = G2 := ⟨_, rfl⟩
        rw [hG2] at HL2
        have HG2 := hidP hG2
        clear hG2 hP
        go_wp2
        go_loopw [10] (fun v W => ∃ (k d3 : Nat) (a3 : Option Addr) (xs : List Int) (o' : Option Int), v = .int .i64 (k : Int) ∧ k ≤ R ∧ Hid (xs.length = k) ∧ Hid (GS w W r A cap l o' gen a1 d1 ms a2 d2 bs a3 d3 xs) ∧ Hid (LkN (getIn l) G2 R k xs o')) (fun v _ => R - (intOf v).toNat)
        case atStart => exact ⟨0, 0, none, [], o, rfl, by omega, rfl, G, HL2⟩
        case round =>
          clear G HL2
          obtain ⟨k, d3, a3, xs, o', rfl, hk, hxk, G, HLk⟩ := hrel
          by_cases hkR : k < R
          · have hkR' : (k : Int) < (R : Int) := by omega
            have HLk' := hidP (HLk.out.step (stpIn l) rfl hkR)
            clear HLk
            go_wp2_with fail
            refine (l7Num_any r A cap l hl o' _ G.out.cb.cu).mono ?_
            rintro e v1 ⟨rfl, k1, h1⟩
            have hb1 := nV_le l o'
            have G1 := hidP (G.out.call k1 h1)
            have ee : (nV (nS l o') : Int) = elIn l o' := rfl
            have hbe : 0 ≤ elIn l o' ∧ elIn l o' ≤ 2147483647 := by rw [← ee]; omega
            have es : nO (nS l o') = stIn l o' := rfl
            rw [es] at G1
            rw [ee]
            clear k1 h1 G ee hb1 es
            generalize elIn l o' = y1 at *
            generalize stIn l o' = s1 at *
            have hxl : xs.length ≤ 2000000 := by have := hxk.out; omega
            obtain ⟨a3', d3', X3, hr3, bx3, G3⟩ := G1.out.app3 y1 hxl
            have b3 : v1.cell? ⟨w.heap.size + 1, 3, none⟩ = some (.slice a3 (List.length xs) d3) := G1.out.box.cell (i := 3) rfl
            have q3 := G1.out.box.lt
            have b3' : X3.cell? ⟨w.heap.size + 1, 3, none⟩ = some (.slice a3 (List.length xs) d3) := bx3.cell (i := 3) rfl
            have f3' := bx3.thaw 3
            have q3' := bx3.lt
            have G4 := hidP G3
            have hxk2 : Hid ((xs ++ [y1]).length = k + 1) := by show _ = _; have := hxk.out; simp; omega
            clear G1 bx3 hxl G3 hxk
            go_wp2_with (at_builtin; refine wpList_append_is rfl _ _ _ rfl _ _ _ rfl rfl hr3 ?_)
            exact ⟨⟨k + 1, d3', a3', xs ++ [y1], s1, by go_num, by omega, hxk2, G4, HLk'⟩, by simp [intOf]; omega⟩
          · obtain rfl : k = R := by omega
            have HN : Hid (Rel (getGr k l) c0 (⟨gen, ms, bs, xs⟩ : PG) o') := by
              have e := Ho0.out
              subst e
              have h1 := HLk.out.end
              rw [← HG2.out] at h1
              have h2 := hG.out
              rw [← HG0.out] at h2
              have h3 := linkGr k l c0 ps xs o o' h2 h1
              rw [hgen.out, hms.out, hbs.out]
              exact Rel.of_map h3 HLk.out.pos
            clear HLk HG2 hG hgen hms hbs
            have bb := G.out.box
            have rr := G.out.res
            have M1 := G.out.o1
            have M2 := G.out.o2
            have M3 := G.out.o3
            have D12 := hidP G.out.d12
            have D13 := hidP G.out.d13
            have D23 := hidP G.out.d23
            have e0 : wr.cell? ⟨w.heap.size + 1, 0, none⟩ = some (Value.int .i64 gen) := bb.cell (i := 0) rfl
            have e1 : wr.cell? ⟨w.heap.size + 1, 1, none⟩ = some (Value.slice a1 (List.length ms) d1) := bb.cell (i := 1) rfl
            have e2 : wr.cell? ⟨w.heap.size + 1, 2, none⟩ = some (Value.slice a2 (List.length bs) d2) := bb.cell (i := 2) rfl
            have e3 : wr.cell? ⟨w.heap.size + 1, 3, none⟩ = some (Value.slice a3 (List.length xs) d3) := bb.cell (i := 3) rfl
            have qx := bb.lt
            have r0 : wr.cell? ⟨w.heap.size, 0, none⟩ = some (.int .i64 0) := rr.cell (i := 0) rfl
            have z0 := rr.thaw 0
            have r1 : wr.cell? ⟨w.heap.size, 1, none⟩ = some (.slice none 0 0) := rr.cell (i := 1) rfl
            have z1 := rr.thaw 1
            have r2 : wr.cell? ⟨w.heap.size, 2, none⟩ = some (.slice none 0 0) := rr.cell (i := 2) rfl
            have z2 := rr.thaw 2
            have r3 : wr.cell? ⟨w.heap.size, 3, none⟩ = some (.slice none 0 0) := rr.cell (i := 3) rfl
            have z3 := rr.thaw 3
            have qr := rr.lt
            have oA := (((((Only.refl w.heap.size wr).set 0 (Value.int .i64 gen)).set 1 (Value.slice a1 (List.length ms) d1)).set 2 (Value.slice a2 (List.length bs) d2)).set 3 (Value.slice a3 (List.length xs) d3))
            have HCz := hidP (G.out.cb.offp (Offp.of_only oA) (fun x e => by subst e; exact Nat.le_refl _))
            have N1 := hidP (owns_only' M1 oA (by omega))
            have N2 := hidP (owns_only' M2 oA (by omega))
            have N3 := hidP (owns_only' M3 oA (by omega))
            clear oA bb rr M1 M2 M3 G
            go_wp2
            refine bodyPost_ret (v := .agg #[Value.int .i64 gen, Value.slice a1 (List.length ms) d1, Value.slice a2 (List.length bs) d2, Value.slice a3 (List.length xs) d3]) (by simp [results, Tryz.results39, go_sem, r0, r1, r2, r3]) rfl ?_
            refine ⟨⟨gen, ms, bs, xs⟩, _, o', rfl, ⟨a1, d1, a2, d2, a3, d3, rfl, _, _, _, fun y hy => ?_, fun y hy => ?_, fun y hy => ?_, D12.out, D13.out, D23.out, owns_own N1.out, owns_own N2.out, owns_own N3.out⟩, HCz.out.only, HCz.out.cu, HN.out⟩
            · have := N1.out.lt y hy; exact ⟨by omega, this.2⟩
            · have := N2.out.lt y hy; exact ⟨by omega, this.2⟩
            · have := N3.out.lt y hy; exact ⟨by omega, this.2⟩

end Go.Proofs.YtjjbbkmedpfenaaGreat.Gen
