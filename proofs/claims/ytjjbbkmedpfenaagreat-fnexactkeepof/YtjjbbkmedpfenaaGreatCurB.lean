/-
  The specification's cursor under way; lists that it reads one value behind the other, held against the program's. Condition: at most 1048576 bytes.
-/
import Derived.Test.YtjjbbkmedpfenaaGreatRd
import Derived.Test.YtjjbbkmedpfenaaGreatCmdRd
namespace Go.Proofs.YtjjbbkmedpfenaaGreat.Gen
open Go.ChangeShapes Go.WideShapes Go.ChangeAt Go.RowKit Go.Joins Go.Deep Base
set_option linter.unusedVariables false
set_option linter.unusedSimpArgs false

/-- The cursor under way: it alone turns of what was there. -/
structure CB (w W : World) (r : Nat) (A : Option Addr) (cap : Nat) (L : List UInt8) (o : Option Int) : Prop where
  cu : CuO W r A cap L o
  only : Only r w W
  lr : r < w.heap.size
  la : L = [] ∨ ∀ c o, A = some ⟨c, o, none⟩ → c < w.heap.size
theorem CB.call {w W W1 : World} {r : Nat} {A : Option Addr} {cap : Nat} {L : List UInt8} {o o' : Option Int} (h : CB w W r A cap L o) (k : Only r W W1) (c : CuO W1 r A cap L o') : CB w W1 r A cap L o' := ⟨c, only_trans h.only k, h.lr, h.la⟩
theorem CuO.offp {W W' : World} {r : Nat} {A : Option Addr} {cap : Nat} {l : List UInt8} {o : Option Int} {S : Nat → Prop} (h : CuO W r A cap l o) (g : Offp S W W') (hr : ¬ S r) (hA : l = [] ∨ ∀ c o, A = some ⟨c, o, none⟩ → ¬ S c) : CuO W' r A cap l o := by
  obtain ⟨i, ok, hc⟩ := h
  refine ⟨i, ok, hc.box.offp g hr, ?_, hc.i64, hc.st⟩
  rcases hA with h | hA
  · exact .inl h
  · exact hc.src.imp id fun ⟨c, o, e, hb, hn, hi⟩ => ⟨c, o, e, Nat.lt_of_lt_of_le hb g.size, hn, hi.offp g hb (hA c o e)⟩
theorem CB.offp {w W W1 : World} {r : Nat} {A : Option Addr} {cap : Nat} {L : List UInt8} {o : Option Int} {S : Nat → Prop} (h : CB w W r A cap L o) (k : Offp S W W1) (hS : ∀ x, S x → w.heap.size ≤ x) : CB w W1 r A cap L o :=
  ⟨h.cu.offp k (fun e => by have := hS _ e; have := h.lr; omega) (h.la.imp id fun f c o e e' => by have := hS _ e'; have := f c o e; omega), only_offp h.only k hS, h.lr, h.la⟩
theorem CB.below {w W W1 : World} {r : Nat} {A : Option Addr} {cap : Nat} {L : List UInt8} {o : Option Int} (h : CB w W r A cap L o) (k : Below W.heap.size W W1) : CB w W1 r A cap L o := h.offp (Offp.of_below (S := fun _ => False) k) (fun x e => e.elim)
theorem CB.start {w : World} {r : Nat} {A : Option Addr} {cap : Nat} {L : List UInt8} {o : Option Int} (h : CuO w r A cap L o) : CB w w r A cap L o := ⟨h, Only.refl _ _, h.far.1, h.far.2⟩
/-- Whether the cursor is right still. -/
theorem CB.ok {w W : World} {r : Nat} {A : Option Addr} {cap : Nat} {L : List UInt8} {o : Option Int} (h : CB w W r A cap L o) : W.cell? ⟨r, 2, none⟩ = some (.bool o.isSome) ∧ r < W.heap.size := by
  obtain ⟨i, ok, hc⟩ := h.cu
  have e : ok = o.isSome := by rw [hc.st]; cases ok <;> rfl
  exact ⟨e ▸ hc.box.row3.2.2, hc.box.lt⟩

/-- The list that begins where the cursor stands. -/
def gl {α : Type} (l : List UInt8) (get : Int → Option (α × Nat)) (o : Option Int) : Option (List α × Nat) := o.bind (getList l get)
/-- What is still to come when k of n values have come: g is what all of them come to. -/
def LkG {α : Type} (get : Int → Option (α × Nat)) (b : Nat) (g : Option (List α × Nat)) (n k : Nat) (xs : List α) (o : Option Int) : Prop :=
  (∃ c : Nat, o = some (c : Int) ∧ g = addTo xs (getMany get (n - k) c) ∧ k ≤ c ∧ c ≤ b) ∨ (o = none ∧ g = none ∧ k ≤ b + 1)
theorem LkG.start {α : Type} (l : List UInt8) (get : Int → Option (α × Nat)) (o : Option Int) : LkG get l.length (gl l get o) (nV (nS l o)) 0 [] (nO (nS l o)) := by
  cases o with
  | none => exact .inr ⟨rfl, rfl, by omega⟩
  | some i =>
    have e : nS l (some i) = getN l i := rfl
    rw [e]
    cases h : getN l i with
    | none => exact .inr ⟨rfl, by show getList l get i = none; unfold getList; rw [h], by omega⟩
    | some q =>
      obtain ⟨n, c⟩ := q
      refine .inl ⟨c, rfl, ?_, by omega, (getN_le h).2.2.2.1⟩
      show getList l get i = addTo [] (getMany get (n - 0) c)
      unfold getList
      rw [h, Nat.sub_zero]
      simp only
      cases getMany get n c <;> simp [addTo]
/-- What a reading does: the value and the place behind it, or nothing is right any more. -/
def Stp {α : Type} (get : Int → Option (α × Nat)) (el : Option Int → α) (st : Option Int → Option Int) : Prop :=
  ∀ c : Nat, (get (c : Int) = none ∧ st (some (c : Int)) = none) ∨ (∃ d : Nat, get (c : Int) = some (el (some (c : Int)), d) ∧ st (some (c : Int)) = some (d : Int))
theorem LkG.step {α : Type} {get : Int → Option (α × Nat)} {el : Option Int → α} {st : Option Int → Option Int} (hs : Stp get el st) {b : Nat} (hle : ∀ (i : Nat) x d, get (i : Int) = some (x, d) → i < d ∧ d ≤ b) {g : Option (List α × Nat)} {n k c : Nat} {xs : List α} (h : LkG get b g n k xs (some (c : Int))) (hk : k < n) : LkG get b g n (k + 1) (xs ++ [el (some (c : Int))]) (st (some (c : Int))) := by
  rcases h with ⟨c', e, h, h1, h2⟩ | ⟨e, _⟩
  · simp only [Option.some.injEq] at e
    obtain rfl : c = c' := by omega
    obtain ⟨m, hm⟩ : ∃ m, n - k = m + 1 := ⟨n - k - 1, by omega⟩
    have hm' : n - (k + 1) = m := by omega
    rcases hs c with ⟨e1, e2⟩ | ⟨d, e1, e2⟩
    · exact .inr ⟨e2, by rw [h, hm]; exact many_none xs e1, by omega⟩
    · have := hle c _ d e1
      exact .inl ⟨d, e2, by rw [h, hm, hm']; exact many_some xs e1, by omega, this.2⟩
  · cases e
/-- What a reading at place c has told: the value and where the cursor stands behind it. -/
def Rel {α : Type} (get : Int → Option (α × Nat)) (c : Nat) (x : α) (o : Option Int) : Prop := (get (c : Int) = none ∧ o = none) ∨ ∃ d : Nat, get (c : Int) = some (x, d) ∧ o = some (d : Int)
theorem Stp.rel {α : Type} {get : Int → Option (α × Nat)} {el : Option Int → α} {st : Option Int → Option Int} (h : Stp get el st) (c : Nat) : Rel get c (el (some (c : Int))) (st (some (c : Int))) := h c
theorem Rel.of_map {α : Type} {get : Int → Option (α × Nat)} {c : Nat} {x : α} {o : Option Int} (h : get (c : Int) = o.map fun d => (x, d.toNat)) (hp : ∀ d, o = some d → 0 ≤ d) : Rel get c x o := by
  cases o with
  | none => exact .inl ⟨h, rfl⟩
  | some d => exact .inr ⟨d.toNat, h, by have := hp d rfl; congr 1; omega⟩
theorem LkG.next {α : Type} {get : Int → Option (α × Nat)} {b : Nat} (hle : ∀ (i : Nat) x d, get (i : Int) = some (x, d) → i < d ∧ d ≤ b) {g : Option (List α × Nat)} {n k c : Nat} {xs : List α} {x : α} {o : Option Int} (h : LkG get b g n k xs (some (c : Int))) (hr : Rel get c x o) (hk : k < n) : LkG get b g n (k + 1) (xs ++ [x]) o := by
  rcases h with ⟨c', e, h, h1, h2⟩ | ⟨e, _⟩
  · simp only [Option.some.injEq] at e
    obtain rfl : c = c' := by omega
    obtain ⟨m, hm⟩ : ∃ m, n - k = m + 1 := ⟨n - k - 1, by omega⟩
    have hm' : n - (k + 1) = m := by omega
    rcases hr with ⟨e1, e2⟩ | ⟨d, e1, e2⟩
    · exact .inr ⟨e2, by rw [h, hm]; exact many_none xs e1, by omega⟩
    · have := hle c _ d e1
      exact .inl ⟨d, e2, by rw [h, hm, hm']; exact many_some xs e1, by omega, this.2⟩
  · cases e
theorem LkG.end {α : Type} {get : Int → Option (α × Nat)} {b : Nat} {g : Option (List α × Nat)} {n : Nat} {xs : List α} {o : Option Int} (h : LkG get b g n n xs o) : g = o.map fun c => (xs, c.toNat) := by
  rcases h with ⟨c, rfl, h, _⟩ | ⟨rfl, h, _⟩
  · rw [h, Nat.sub_self, many_end]; simp
  · rw [h]; rfl
theorem LkG.stop {α : Type} {get : Int → Option (α × Nat)} {b : Nat} {g : Option (List α × Nat)} {n k : Nat} {xs : List α} (h : LkG get b g n k xs none) : g = none := by
  rcases h with ⟨c, e, _⟩ | ⟨_, h, _⟩
  · cases e
  · exact h
theorem LkG.le {α : Type} {get : Int → Option (α × Nat)} {b : Nat} {g : Option (List α × Nat)} {n k : Nat} {xs : List α} {o : Option Int} (h : LkG get b g n k xs o) : k ≤ b + 1 := by
  rcases h with ⟨c, _, _, h1, h2⟩ | ⟨_, _, h⟩
  · omega
  · exact h
theorem LkG.pos {α : Type} {get : Int → Option (α × Nat)} {b : Nat} {g : Option (List α × Nat)} {n k : Nat} {xs : List α} {o : Option Int} (h : LkG get b g n k xs o) : ∀ c, o = some c → 0 ≤ c := by
  rcases h with ⟨c', rfl, _⟩ | ⟨rfl, _⟩
  · intro c e; simp at e; omega
  · intro c e; cases e
theorem LkG.place {α : Type} {get : Int → Option (α × Nat)} {b : Nat} {g : Option (List α × Nat)} {n k : Nat} {xs : List α} {o : Option Int} (h : LkG get b g n k xs o) (ho : o.isSome = true) : ∃ c : Nat, o = some (c : Int) := by
  rcases h with ⟨c, e, _⟩ | ⟨e, _⟩
  · exact ⟨c, e⟩
  · rw [e] at ho; cases ho
/-- How a loop of it ends. -/
theorem LkG.done {α : Type} {get : Int → Option (α × Nat)} {b : Nat} {g : Option (List α × Nat)} {n k : Nat} {xs : List α} {o : Option Int} (h : LkG get b g n k xs o) (hk : k ≤ n) (hent : ¬ (k < n ∧ o.isSome = true)) : g = o.map fun c => (xs, c.toNat) := by
  by_cases hkn : k < n
  · have hos : o = none := by
      cases o with
      | none => rfl
      | some c => exact absurd ⟨hkn, rfl⟩ hent
    subst hos
    rw [h.stop]
    rfl
  · obtain rfl : k = n := by omega
    exact h.end
/-- A value more, in a list that a box names. -/
theorem app_el {α : Type} [Cel α] {pg : Program} {ts t : TypeId} {z : Value} {bytes : Nat} (hu : pg.underlying ts = some (.slice t)) (hinfo : (pg.info? t).map (fun i => (i.zero, i.size, i.bytes)) = some (some z, Cel.k α, bytes)) (hz : z.cells.size = Cel.k α) (hk : 0 < Cel.k α) (hby : bytes ≤ 1000)
    {B : Nat} {W : World} {a : Option Addr} {cp : Nat} {xs : List α} (own : W.ownsRow B t (Cel.k α) (.slice a xs.length cp) xs.length (flat xs)) (hB : B ≤ W.heap.size) (x : α) (cs : Array Value) (hcs : cs.toList = Cel.cs x) (hx : xs.length ≤ 2000000) :
    ∃ a2 c2 W2, (Builtin.append_ #[ts, ts] ts #[.slice a xs.length cp, .slice (some ⟨W.heap.size, 0, none⟩) 1 1]).run pg (W.alloc (.cells cs t)) = .ok (.slice a2 (xs.length + 1) c2) W2 ∧ W2.ownsRow B t (Cel.k α) (.slice a2 (xs ++ [x]).length c2) (xs ++ [x]).length (flat (xs ++ [x])) ∧
      Offp (fun y => (Value.slice a xs.length cp).ownBlock = some y) (W.alloc (.cells cs t)) W2 ∧ (∀ y, (Value.slice a xs.length cp).ownBlock = some y → B ≤ y ∧ y < W.heap.size) := by
  have own1 := owns_alloc own (.cells cs t)
  have hX : At (W.alloc (.cells cs t)) (some ⟨W.heap.size, 0, none⟩) [x] := by
    refine .inr ⟨_, 0, rfl, by simp, fun j u hu => ?_⟩
    rw [flat_one, ← hcs] at hu
    rw [Nat.zero_add]
    exact (Blk.new W t cs).cell (by simpa using hu)
  obtain ⟨v', W2, hr, hown, hgrow, _⟩ := append_els (P := pg) hu hinfo hz hk hby B (.slice a xs.length cp) xs [x] (some ⟨W.heap.size, 0, none⟩) 1 _ (by simp; omega) own1 hX (by simp; omega)
  simp only [List.length_cons, List.length_nil, Nat.zero_add] at hown hr
  obtain ⟨a2, c2, rfl, _⟩ := owns_form hown
  exact ⟨a2, c2, W2, hr, by rw [List.length_append]; exact hown, offp_grown hgrow, fun y hy => own.lt y hy⟩
end Go.Proofs.YtjjbbkmedpfenaaGreat.Gen
