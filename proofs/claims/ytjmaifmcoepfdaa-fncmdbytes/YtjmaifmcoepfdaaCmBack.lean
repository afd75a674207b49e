/-
  Commands, there and back, as lists alone. No condition.
-/
import Derived.Test.YtjmaifmcoepfdaaBackP
import Derived.Test.YtjmaifmcoepfdaaCmdB
import Derived.Test.YtjmaifmcoepfdaaCmdO
namespace Go.Proofs.Ytjmaifmcoepfdaa.Gen
open Go.ChangeShapes Go.WideShapes Go.ChangeAt Go.RowKit Go.Joins Go.Deep Base
set_option linter.unusedVariables false
set_option linter.unusedSimpArgs false

def Cm.bytes (x : Cm) : List UInt8 := cmB x.who x.seq x.op x.a x.b x.c x.k x.t
theorem nS_at {l p r : List UInt8} {n : Int} (h : l = p ++ (numI n ++ r)) (h0 : 0 ≤ n) (h1 : n ≤ 2147483647) : nS l (some (p.length : Int)) = some (n.toNat, (p ++ numI n).length) := by
  obtain ⟨m, rfl⟩ : ∃ m : Nat, n = (m : Int) := ⟨n.toNat, by omega⟩
  rw [numI_nat (by omega)] at h ⊢
  subst h
  show getN (p ++ (numB m ++ r)) (p.length : Int) = _
  rw [getN_numB (by omega), List.length_append]
  simp
theorem tS_at {l p r : List UInt8} {s : ByteArray} (h : l = p ++ (txtB s ++ r)) (h1 : s.size ≤ 2147483647) : tS l (some (p.length : Int)) = some (s, (p ++ txtB s).length) := by
  subst h
  show getT _ _ = _
  rw [getT_txtB h1, List.length_append]
theorem nO_some {α : Type} (x : α) (n : Nat) : nO (some (x, n)) = some (n : Int) := rfl
theorem nV_some (x n : Nat) : nV (some (x, n)) = x := rfl
theorem tV_some (x : ByteArray) (n : Nat) : tV (some (x, n)) = x := rfl

/-- What was written is read as it was. -/
theorem ofC_bytes {x : Cm} (h : x.ok = true) (r : List UInt8) : ofC (x.bytes ++ r) 0 = some (x, x.bytes.length) := by
  have hR := ok_ranges h
  obtain ⟨w0, s0, o0, a0, b0, c0, k0, t0⟩ := hR
  obtain ⟨who, seq, op, a, b, c, k, t⟩ := x
  simp only at w0 s0 o0 a0 b0 c0 k0 t0
  obtain ⟨l, hl⟩ : ∃ l, l = cmB who seq op a b c k t ++ r := ⟨_, rfl⟩
  have hl' : l = numI (who + 1) ++ (numI seq ++ (numI op ++ (numI a ++ (numI b ++ (numI c ++ (txtB k ++ (txtB t ++ r))))))) := by rw [hl]; simp [cmB, numsB]
  have e1 : q1 l (some 0) = some ((who + 1).toNat, ([] ++ numI (who + 1)).length) := nS_at (p := []) (r := _) (by rw [hl']; rfl) (by omega) (by omega)
  have e2 : q2 l (some 0) = some (seq.toNat, ([] ++ numI (who + 1) ++ numI seq).length) := by
    show nS l (nO (q1 l (some 0))) = _
    rw [e1, nO_some]
    exact nS_at (r := numI op ++ (numI a ++ (numI b ++ (numI c ++ (txtB k ++ (txtB t ++ r)))))) (by rw [hl']; simp only [List.append_assoc, List.nil_append]) (by omega) (by omega)
  have e3 : q3 l (some 0) = some (op.toNat, ([] ++ numI (who + 1) ++ numI seq ++ numI op).length) := by
    show nS l (nO (q2 l (some 0))) = _
    rw [e2, nO_some]
    exact nS_at (r := numI a ++ (numI b ++ (numI c ++ (txtB k ++ (txtB t ++ r))))) (by rw [hl']; simp only [List.append_assoc, List.nil_append]) (by omega) (by omega)
  have e4 : q4 l (some 0) = some (a.toNat, ([] ++ numI (who + 1) ++ numI seq ++ numI op ++ numI a).length) := by
    show nS l (nO (q3 l (some 0))) = _
    rw [e3, nO_some]
    exact nS_at (r := numI b ++ (numI c ++ (txtB k ++ (txtB t ++ r)))) (by rw [hl']; simp only [List.append_assoc, List.nil_append]) (by omega) (by omega)
  have e5 : q5 l (some 0) = some (b.toNat, ([] ++ numI (who + 1) ++ numI seq ++ numI op ++ numI a ++ numI b).length) := by
    show nS l (nO (q4 l (some 0))) = _
    rw [e4, nO_some]
    exact nS_at (r := numI c ++ (txtB k ++ (txtB t ++ r))) (by rw [hl']; simp only [List.append_assoc, List.nil_append]) (by omega) (by omega)
  have e6 : q6 l (some 0) = some (c.toNat, ([] ++ numI (who + 1) ++ numI seq ++ numI op ++ numI a ++ numI b ++ numI c).length) := by
    show nS l (nO (q5 l (some 0))) = _
    rw [e5, nO_some]
    exact nS_at (r := txtB k ++ (txtB t ++ r)) (by rw [hl']; simp only [List.append_assoc, List.nil_append]) (by omega) (by omega)
  have e7 : q7 l (some 0) = some (k, ([] ++ numI (who + 1) ++ numI seq ++ numI op ++ numI a ++ numI b ++ numI c ++ txtB k).length) := by
    show tS l (nO (q6 l (some 0))) = _
    rw [e6, nO_some]
    exact tS_at (r := txtB t ++ r) (by rw [hl']; simp only [List.append_assoc, List.nil_append]) (by omega)
  have e8 : q8 l (some 0) = some (t, ([] ++ numI (who + 1) ++ numI seq ++ numI op ++ numI a ++ numI b ++ numI c ++ txtB k ++ txtB t).length) := by
    show tS l (nO (q7 l (some 0))) = _
    rw [e7, nO_some]
    exact tS_at (r := r) (by rw [hl']; simp only [List.append_assoc, List.nil_append]) (by omega)
  have hc : cmOf l (some 0) = ⟨who, seq, op, a, b, c, k, t⟩ := by
    unfold cmOf
    rw [e1, e2, e3, e4, e5, e6, e7, e8]
    simp only [nV_some, tV_some]
    congr 1 <;> omega
  show ofC (cmB who seq op a b c k t ++ r) 0 = _
  rw [← hl]
  unfold ofC getC
  rw [e8, hc]
  simp only [Option.map_some]
  rw [if_pos h]
  congr 2
  simp [Cm.bytes, cmB, numsB, List.append_assoc]

theorem nS_inv {l : List UInt8} {o : Option Int} {n c : Nat} (h : nS l o = some (n, c)) : ∃ j : Nat, o = some (j : Int) ∧ n ≤ 2147483647 ∧ j < c ∧ c ≤ l.length ∧ numI (n : Int) = (l.drop j).take (c - j) := by
  cases o with
  | none => cases h
  | some i =>
    have hg : getN l i = some (n, c) := h
    obtain ⟨h1, h2, h3, h4, h5⟩ := getN_le hg
    refine ⟨i.toNat, by rw [Int.toNat_of_nonneg h2], h1, by omega, h4, ?_⟩
    rw [numI_nat h1]
    exact numB_getN hg
theorem tS_inv {l : List UInt8} {o : Option Int} {s : ByteArray} {c : Nat} (h : tS l o = some (s, c)) : ∃ j : Nat, o = some (j : Int) ∧ j ≤ c ∧ c ≤ l.length ∧ txtB s = (l.drop j).take (c - j) := by
  cases o with
  | none => cases h
  | some i =>
    have hg : getT l i = some (s, c) := h
    obtain ⟨h1, h2, h3, h4⟩ := getT_le hg
    exact ⟨i.toNat, by rw [Int.toNat_of_nonneg (by omega)], by omega, by omega, (txtB_getT hg).1⟩
theorem nO_inv {α : Type} {x : Option (α × Nat)} {j : Nat} (h : nO x = some (j : Int)) : ∃ v, x = some (v, j) := by
  cases x with
  | none => cases h
  | some p =>
    obtain ⟨v, n⟩ := p
    simp only [nO, Option.map_some, Option.some.injEq] at h
    exact ⟨v, by rw [show n = j by omega]⟩
theorem seg_append (l : List UInt8) {a b c : Nat} (h1 : a ≤ b) (h2 : b ≤ c) : (l.drop a).take (b - a) ++ (l.drop b).take (c - b) = (l.drop a).take (c - a) := by
  have e : c - a = (b - a) + (c - b) := by omega
  rw [e, List.take_add, List.drop_drop]
  congr 3
  omega

/-- What was read is what was written. -/
theorem bytes_getC {l : List UInt8} {i : Int} {x : Cm} {c : Nat} (h : getC l i = some (x, c)) : ∃ j : Nat, i = (j : Int) ∧ j ≤ c ∧ c ≤ l.length ∧ x.bytes = (l.drop j).take (c - j) := by
  unfold getC at h
  cases e8 : q8 l (some i) with
  | none => rw [e8] at h; cases h
  | some p =>
    obtain ⟨t, c'⟩ := p
    rw [e8] at h
    simp only [Option.map_some, Option.some.injEq, Prod.mk.injEq] at h
    obtain ⟨rfl, rfl⟩ := h
    obtain ⟨j7, o7, l8, m8, b8⟩ := tS_inv (show tS l (nO (q7 l (some i))) = _ from e8)
    obtain ⟨k, e7⟩ := nO_inv o7
    obtain ⟨j6, o6, l7, m7, b7⟩ := tS_inv (show tS l (nO (q6 l (some i))) = _ from e7)
    obtain ⟨n6, e6⟩ := nO_inv o6
    obtain ⟨j5, o5, _, l6, m6, b6⟩ := nS_inv (show nS l (nO (q5 l (some i))) = _ from e6)
    obtain ⟨n5, e5⟩ := nO_inv o5
    obtain ⟨j4, o4, _, l5, m5, b5⟩ := nS_inv (show nS l (nO (q4 l (some i))) = _ from e5)
    obtain ⟨n4, e4⟩ := nO_inv o4
    obtain ⟨j3, o3, _, l4, m4, b4⟩ := nS_inv (show nS l (nO (q3 l (some i))) = _ from e4)
    obtain ⟨n3, e3⟩ := nO_inv o3
    obtain ⟨j2, o2, _, l3, m3, b3⟩ := nS_inv (show nS l (nO (q2 l (some i))) = _ from e3)
    obtain ⟨n2, e2⟩ := nO_inv o2
    obtain ⟨j1, o1, _, l2, m2, b2⟩ := nS_inv (show nS l (nO (q1 l (some i))) = _ from e2)
    obtain ⟨n1, e1⟩ := nO_inv o1
    obtain ⟨j0, o0, _, l1, m1, b1⟩ := nS_inv (show nS l (some i) = _ from e1)
    have hi : i = (j0 : Int) := by simpa using o0
    refine ⟨j0, hi, by omega, m8, ?_⟩
    have hx : cmOf l (some i) = ⟨(n1 : Int) - 1, n2, n3, n4, n5, n6, k, t⟩ := by
      unfold cmOf
      rw [e1, e2, e3, e4, e5, e6, e7, e8]
      rfl
    rw [hx]
    simp only [Cm.bytes, cmB, numsB, List.flatMap_cons, List.flatMap_nil, List.append_nil]
    rw [show (n1 : Int) - 1 + 1 = n1 by omega, b1, b2, b3, b4, b5, b6, b7, b8]
    rw [seg_append l (by omega : j4 ≤ j5) (by omega : j5 ≤ j6), seg_append l (by omega : j3 ≤ j4) (by omega : j4 ≤ j6), seg_append l (by omega : j2 ≤ j3) (by omega : j3 ≤ j6), seg_append l (by omega : j1 ≤ j2) (by omega : j2 ≤ j6), seg_append l (by omega : j0 ≤ j1) (by omega : j1 ≤ j6), seg_append l (by omega : j0 ≤ j6) l7, seg_append l (by omega : j0 ≤ j7) l8]

/-- What CmdOf tells of any bytes. -/
theorem formC (l : List UInt8) (i : Int) : ∃ (x : Cm) (S : Int) (O : Bool), ofT (ofC l i) = .tuple #[x.v, .int .i64 S, .bool O] ∧ x.k.size ≤ l.length ∧ x.t.size ≤ l.length ∧
    (O = true → ∃ j n : Nat, i = (j : Int) ∧ S = (j : Int) + (n : Int) ∧ j + n ≤ l.length ∧ x.ok = true ∧ (l.drop j).take n = x.bytes) := by
  have hz : ∃ (x : Cm) (S : Int) (O : Bool), ofT none = .tuple #[x.v, .int .i64 S, .bool O] ∧ x.k.size ≤ l.length ∧ x.t.size ≤ l.length ∧
    (O = true → ∃ j n : Nat, i = (j : Int) ∧ S = (j : Int) + (n : Int) ∧ j + n ≤ l.length ∧ x.ok = true ∧ (l.drop j).take n = x.bytes) := ⟨Cm.zero, 0, false, rfl, Nat.zero_le _, Nat.zero_le _, fun h => by cases h⟩
  unfold ofC
  cases hg : getC l i with
  | none => exact hz
  | some p =>
    obtain ⟨x, c⟩ := p
    simp only
    by_cases hok : x.ok = true
    · rw [if_pos hok]
      obtain ⟨j, h1, h2, h3, h4⟩ := bytes_getC hg
      obtain ⟨hk, ht⟩ := getC_txt hg
      exact ⟨x, _, true, rfl, hk, ht, fun _ => ⟨j, c - j, h1, by omega, by omega, hok, h4.symm⟩⟩
    · rw [if_neg hok]
      exact hz
end Go.Proofs.Ytjmaifmcoepfdaa.Gen
