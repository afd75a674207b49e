/-
  Numbers and texts as bytes, as lists alone: how a number is written, how it is read, and that the one is the other's way back. No condition.
-/
import Derived.Test.YtfbbifdfjjkknaaDoorByts
namespace Go.Proofs.YtfbbifdfjjkknaaDoor.Gen
set_option linter.unusedVariables false

/-- A number's bytes: seven bits a byte, the low ones first. -/
def numB (n : Nat) : List UInt8 := if h : n < 128 then [UInt8.ofNat n] else UInt8.ofNat (n % 128 + 128) :: numB (n / 128)
termination_by n
decreasing_by omega
theorem numB_small {n : Nat} (h : n < 128) : numB n = [UInt8.ofNat n] := by rw [numB]; simp [h]
theorem numB_big {n : Nat} (h : ¬ n < 128) : numB n = UInt8.ofNat (n % 128 + 128) :: numB (n / 128) := by rw [numB]; simp [h]
theorem numB_pos (n : Nat) : 0 < (numB n).length := by rw [numB]; split <;> simp
theorem numB_le1 {n : Nat} (h : n < 128) : (numB n).length ≤ 1 := by rw [numB_small h]; simp
theorem numB_step {n k : Nat} (h : (numB (n / 128)).length ≤ k) (hk : 0 < k) : (numB n).length ≤ k + 1 := by
  by_cases q : n < 128
  · have := numB_le1 q; omega
  · rw [numB_big q]; simp; omega
theorem numB_le {n : Nat} (h : n < 34359738368) : (numB n).length ≤ 5 :=
  numB_step (numB_step (numB_step (numB_step (numB_le1 (by omega)) (by omega)) (by omega)) (by omega)) (by omega)

/-- What is written of any number. -/
def numI (n : Int) : List UInt8 := if 0 ≤ n ∧ n ≤ 2147483647 then numB n.toNat else []
theorem numI_nat {n : Nat} (h : n ≤ 2147483647) : numI (n : Int) = numB n := by unfold numI; rw [if_pos (by omega)]; simp
theorem numI_le (n : Int) : (numI n).length ≤ 5 := by
  unfold numI
  split
  · exact numB_le (by omega)
  · simp

/-- A number read: f bytes may still come, k have come, they made acc. How many bytes there were beside the number. -/
def getD : Nat → Nat → Nat → List UInt8 → Option (Nat × Nat)
  | 0, _, _, _ => none
  | _ + 1, _, _, [] => none
  | f + 1, k, acc, d :: r =>
    if d.toNat < 128 then (if (0 < k ∧ d.toNat = 0) ∨ 2147483647 < acc + d.toNat % 128 * 128 ^ k then none else some (acc + d.toNat % 128 * 128 ^ k, k + 1))
    else getD f (k + 1) (acc + d.toNat % 128 * 128 ^ k) r

/-- The number that begins at a place, and the place behind it. -/
def getN (l : List UInt8) (i : Int) : Option (Nat × Nat) := if 0 ≤ i then (getD 5 0 0 (l.drop i.toNat)).map fun x => (x.1, i.toNat + x.2) else none

theorem getD_le : ∀ (f k acc : Nat) (l : List UInt8) (n c : Nat), getD f k acc l = some (n, c) → n ≤ 2147483647 ∧ k < c ∧ c - k ≤ l.length ∧ c ≤ k + f := by
  intro f
  induction f with
  | zero => intro k acc l n c h; simp [getD] at h
  | succ f ih =>
    intro k acc l n c h
    cases l with
    | nil => simp [getD] at h
    | cons d r =>
      simp only [getD] at h
      split at h
      · split at h
        · cases h
        · rename_i h1
          simp only [Option.some.injEq, Prod.mk.injEq] at h
          obtain ⟨rfl, rfl⟩ := h
          simp only [List.length_cons]
          omega
      · obtain ⟨h1, h2, h3, h4⟩ := ih _ _ _ _ _ h
        simp only [List.length_cons]
        omega
theorem getN_le {l : List UInt8} {i : Int} {n c : Nat} (h : getN l i = some (n, c)) : n ≤ 2147483647 ∧ 0 ≤ i ∧ i < (c : Int) ∧ c ≤ l.length ∧ c ≤ i.toNat + 5 := by
  unfold getN at h
  split at h
  · rename_i hi
    cases hg : getD 5 0 0 (l.drop i.toNat) with
    | none => rw [hg] at h; cases h
    | some x =>
      obtain ⟨x1, x2⟩ := x
      rw [hg] at h
      simp only [Option.map_some, Option.some.injEq, Prod.mk.injEq] at h
      obtain ⟨rfl, rfl⟩ := h
      obtain ⟨h1, h2, h3, h4⟩ := getD_le _ _ _ _ _ _ hg
      simp only [List.length_drop] at h3
      omega
  · cases h
theorem getN_neg {l : List UInt8} {i : Int} (h : i < 0) : getN l i = none := by unfold getN; rw [if_neg (by omega)]
theorem getN_past {l : List UInt8} {i : Int} (h : (l.length : Int) ≤ i) : getN l i = none := by
  unfold getN
  split
  · rw [List.drop_eq_nil_of_le (by omega)]; rfl
  · rfl
/-- A round of the reading. -/
theorem getD_next {l : List UInt8} {i k : Nat} (h : i + k < l.length) (f acc : Nat) :
    getD (f + 1) k acc (l.drop (i + k)) = if (l[i + k]).toNat < 128 then (if (0 < k ∧ (l[i + k]).toNat = 0) ∨ 2147483647 < acc + (l[i + k]).toNat % 128 * 128 ^ k then none else some (acc + (l[i + k]).toNat % 128 * 128 ^ k, k + 1))
      else getD f (k + 1) (acc + (l[i + k]).toNat % 128 * 128 ^ k) (l.drop (i + (k + 1))) := by
  rw [List.drop_eq_getElem_cons h]
  rfl
theorem getD_past {l : List UInt8} {i k : Nat} (h : ¬ i + k < l.length) (f acc : Nat) : getD f k acc (l.drop (i + k)) = none := by
  rw [List.drop_eq_nil_of_le (by omega)]
  cases f <;> rfl

/-! ### The way back -/

/-- What is written is read. -/
theorem getD_numB (r : List UInt8) : ∀ (f k acc n : Nat), n < 128 ^ f → 0 < f → acc + n * 128 ^ k ≤ 2147483647 → (0 < k → 0 < n) → getD f k acc (numB n ++ r) = some (acc + n * 128 ^ k, k + (numB n).length) := by
  intro f
  induction f with
  | zero => intro k acc n h h0; omega
  | succ f ih =>
    intro k acc n h _ hb hk
    by_cases q : n < 128
    · rw [numB_small q]
      have e : (UInt8.ofNat n).toNat = n := by rw [UInt8.toNat_ofNat']; omega
      simp only [List.cons_append, List.nil_append, getD, e, q, if_true, List.length_cons, List.length_nil, Nat.mod_eq_of_lt q]
      rw [if_neg]
      rintro (⟨h1, h2⟩ | h1)
      · have := hk h1; omega
      · omega
    · rw [numB_big q]
      have e : (UInt8.ofNat (n % 128 + 128)).toNat = n % 128 + 128 := by rw [UInt8.toNat_ofNat']; omega
      have hq : ¬ n % 128 + 128 < 128 := by omega
      have hm : (n % 128 + 128) % 128 = n % 128 := by omega
      have hdiv : n / 128 < 128 ^ f := by rw [Nat.div_lt_iff_lt_mul (by omega)]; rwa [Nat.pow_succ] at h
      have hn : n = n % 128 + 128 * (n / 128) := (Nat.mod_add_div n 128).symm
      have hsum : acc + n % 128 * 128 ^ k + n / 128 * 128 ^ (k + 1) = acc + n * 128 ^ k := by
        rw [Nat.pow_succ, Nat.add_assoc]
        congr 1
        conv => rhs; rw [hn]
        rw [Nat.add_mul, Nat.mul_assoc, Nat.mul_comm 128 (n / 128 * _), Nat.mul_assoc]
      have hf : 0 < f := by
        cases f with
        | zero => simp at hdiv; omega
        | succ f => omega
      simp only [List.cons_append, getD, e, hq, if_false, hm]
      rw [ih (k + 1) (acc + n % 128 * 128 ^ k) (n / 128) hdiv hf (by omega) (fun _ => by omega), hsum]
      simp; omega
theorem getN_numB {n : Nat} (h : n ≤ 2147483647) (p r : List UInt8) : getN (p ++ (numB n ++ r)) (p.length : Int) = some (n, p.length + (numB n).length) := by
  unfold getN
  rw [if_pos (by omega)]
  have e : (p.length : Int).toNat = p.length := by omega
  rw [e, List.drop_left, getD_numB r 5 0 0 n (by omega) (by omega) (by omega) (by omega)]
  simp

/-- What is read is written so. -/
theorem numB_getD : ∀ (f k acc : Nat) (l : List UInt8) (n c : Nat), getD f k acc l = some (n, c) → ∃ m, n = acc + m * 128 ^ k ∧ numB m = l.take (c - k) ∧ (0 < k → 0 < m) := by
  intro f
  induction f with
  | zero => intro k acc l n c h; simp [getD] at h
  | succ f ih =>
    intro k acc l n c h
    cases l with
    | nil => simp [getD] at h
    | cons d r =>
      simp only [getD] at h
      split at h
      · rename_i hd
        split at h
        · cases h
        · rename_i h1
          simp only [Option.some.injEq, Prod.mk.injEq] at h
          obtain ⟨rfl, rfl⟩ := h
          refine ⟨d.toNat, by rw [Nat.mod_eq_of_lt hd], ?_, ?_⟩
          · rw [numB_small hd, show k + 1 - k = 1 by omega]; simp
          · intro hk; omega
      · rename_i hd
        obtain ⟨m, h1, h2, h3⟩ := ih _ _ _ _ _ h
        obtain ⟨_, h4, _⟩ := getD_le _ _ _ _ _ _ h
        have hm := h3 (by omega)
        have hlt : d.toNat < 256 := d.toNat_lt
        have e1 : (d.toNat % 128 + 128 * m) % 128 = d.toNat % 128 := by omega
        have e2 : (d.toNat % 128 + 128 * m) / 128 = m := by omega
        have e3 : d.toNat % 128 + 128 = d.toNat := by omega
        refine ⟨d.toNat % 128 + 128 * m, ?_, ?_, fun _ => by omega⟩
        · rw [h1, Nat.pow_succ, Nat.add_mul, Nat.add_assoc]
          congr 1
          rw [Nat.mul_comm 128 m, Nat.mul_assoc, Nat.mul_comm (128 ^ k) 128]
        · rw [numB_big (by omega), e1, e2, e3, h2]
          have : c - k = (c - (k + 1)) + 1 := by omega
          rw [this, List.take_succ_cons]
          simp
theorem numB_getN {l : List UInt8} {i : Int} {n c : Nat} (h : getN l i = some (n, c)) : numB n = (l.drop i.toNat).take (c - i.toNat) := by
  unfold getN at h
  split at h
  · cases hg : getD 5 0 0 (l.drop i.toNat) with
    | none => rw [hg] at h; cases h
    | some x =>
      obtain ⟨x1, x2⟩ := x
      rw [hg] at h
      simp only [Option.map_some, Option.some.injEq, Prod.mk.injEq] at h
      obtain ⟨rfl, rfl⟩ := h
      obtain ⟨m, h1, h2, _⟩ := numB_getD _ _ _ _ _ _ hg
      have : i.toNat + x2 - i.toNat = x2 - 0 := by omega
      rw [this, ← h2, h1]
      simp
  · cases h
end Go.Proofs.YtfbbifdfjjkknaaDoor.Gen
