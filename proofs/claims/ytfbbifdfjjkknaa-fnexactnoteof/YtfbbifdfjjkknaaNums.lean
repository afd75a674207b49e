/-
  Numbers one behind the other, as the specification and as the program's writer lay them. Condition: at most 300000.
-/
import Derived.Test.YtfbbifdfjjkknaaWritn
import Derived.Test.YtfbbifdfjjkknaaInts
namespace Go.Proofs.Ytfbbifdfjjkknaa.Gen
open Go.ChangeShapes Go.WideShapes Go.ChangeAt Go.RowKit Go.Joins Go.Deep Base
set_option linter.unusedVariables false

def numsB (L : List Int) : List UInt8 := L.flatMap numI
theorem numsB_nil : numsB [] = [] := rfl
theorem numsB_cons (x : Int) (L : List Int) : numsB (x :: L) = numI x ++ numsB L := by simp [numsB]
theorem numsB_append (L M : List Int) : numsB (L ++ M) = numsB L ++ numsB M := by simp [numsB]
theorem numsB_take {L : List Int} {n : Nat} (h : n < L.length) : numsB (L.take (n + 1)) = numsB (L.take n) ++ numI L[n] := by
  rw [List.take_succ_eq_append_getElem h, numsB_append]
  simp [numsB]
theorem numsB_le (L : List Int) : (numsB L).length ≤ 5 * L.length := by
  induction L with
  | nil => simp [numsB]
  | cons x L ih => rw [numsB_cons, List.length_append, List.length_cons]; have := numI_le x; omega

/-- One list of bytes appended to an own one. -/
theorem append_l {B : Nat} {a a' : Option Addr} {c c' : Nat} {xs ys : List UInt8} {W : World} (hB : B ≤ W.heap.size) (hv : W.ownsRow B 5 1 (.slice a xs.length c) xs.length (flat xs)) (hy : At W a' ys) (hlen : xs.length + ys.length ≤ 1000000000) :
    ∃ a2 c2 W', (Builtin.append_ #[33, 33] 33 #[.slice a xs.length c, .slice a' ys.length c']).run Try.prog W = .ok (.slice a2 (xs ++ ys).length c2) W' ∧
      W'.ownsRow B 5 1 (.slice a2 (xs ++ ys).length c2) (xs ++ ys).length (flat (xs ++ ys)) ∧ W.grownBy W' (Value.slice a xs.length c).ownBlock := by
  obtain ⟨v', W', hr, hown, hg, _⟩ := append_els8 B (.slice a xs.length c) xs ys a' c' W hB hv hy hlen
  obtain ⟨a2, c2, rfl, _⟩ := owns_form hown
  have e : (xs ++ ys).length = xs.length + ys.length := by simp
  exact ⟨a2, c2, W', by rw [e]; exact hr, by rw [e]; exact hown, hg⟩

set_option maxRecDepth 100000 in
set_option maxHeartbeats 1000000 in
theorem specNums_any (A : Option Addr) (cap : Nat) (L : List Int) (hL : L.length ≤ 300000) (w : World) (hA : At w A L) :
    Calls Try.prog 75 #[.slice A L.length cap] w fun e w' => ∃ a c, e = .returned (.slice a (numsB L).length c) ∧ Below w.heap.size w w' ∧ w'.ownsRow w.heap.size 5 1 (.slice a (numsB L).length c) (numsB L).length (flat (numsB L)) := by
  have own0 : Hid ((w.alloc (.cells #[] 5)).ownsRow w.heap.size 5 1 (.slice (some ⟨w.heap.size, 0, none⟩) 0 0) 0 []) := by
    refine ⟨by simp, .inr ⟨w.heap.size, 0, #[], rfl, Nat.le_refl _, Blk.new w 5 #[], by omega, by simp [maxLen], rfl, rfl⟩⟩
  have HA := hidP hA
  clear hA
  go_enter Try.func75, Try.ntmps75
  go_wp2
  go_loopw [3, 4] (fun v i W => ∃ (n : Nat) (a : Option Addr) (c : Nat), i = .int .i64 (n : Int) ∧ v = .slice a (numsB (L.take n)).length c ∧ n ≤ L.length ∧ Hid (W.ownsRow w.heap.size 5 1 (.slice a (numsB (L.take n)).length c) (numsB (L.take n)).length (flat (numsB (L.take n)))) ∧ Below w.heap.size w W) (fun _ i _ => L.length - (intOf i).toNat)
  case atStart => exact ⟨0, _, _, rfl, rfl, by omega, own0, alloc0 (Below.refl _ w) _⟩
  case round =>
    obtain ⟨n, a, c, rfl, rfl, hn, hO, hbl⟩ := hrel
    by_cases hlt : n < L.length
    · obtain ⟨b, o, rfl, hbs, hin⟩ : ∃ b o, A = some ⟨b, o, none⟩ ∧ b < w.heap.size ∧ In w b o L := by
        rcases HA.out with h | h
        · subst h; simp at hlt
        · exact h
      have c0 := (hin.below hbs hbl).getInt n hlt
      have hi0 : (0 : Int) ≤ (n : Int) := by omega
      have hi1 : (n : Int) < (L.length : Int) := by omega
      have hto := hidP (numsB_take hlt)
      have hle : Hid ((numsB (L.take n)).length ≤ 1500000) := by have := numsB_le (L.take n); rw [List.length_take] at this; exact hidP (by omega)
      generalize numsB (L.take n) = xs at *
      generalize L[n] = x at *
      clear hin
      go_wp2_with fail
      refine (specPutNum_any x _).mono ?_
      rintro e w1 ⟨a1, c1, rfl, g1, o1⟩
      obtain ⟨a2, c2, w2, hr, hown, hg⟩ := append_l (c' := c1) (Nat.le_trans hbl.size g1.size) (owns_below hO.out g1) (fresh_owns o1).at (by have := hle.out; have := numI_le x; omega)
      have HB := hidP ((via0 g1 hbl).grown hg (via0 g1 hbl).size (fun j e => Nat.le_of_not_lt fun q => owns_far (owns_below hO.out g1) q e.symm))
      have HO := hidP hown
      clear hown hg o1 g1 hO hbl
      go_wp2_with (at_builtin; refine wpList_append_is rfl _ _ _ rfl _ _ _ rfl rfl hr ?_)
      refine ⟨⟨n + 1, a2, c2, by go_num, by rw [hto.out, List.length_append], by omega, ?_, HB.out⟩, by simp [intOf]; omega⟩
      show Hid _
      rw [hto.out]
      exact HO
    · obtain rfl : n = L.length := by omega
      rw [List.take_length] at hO
      rw [List.take_length]
      go_wp2
      go_ret
      exact ⟨a, c, rfl, hbl, hO.out⟩

set_option maxRecDepth 100000 in
set_option maxHeartbeats 1000000 in
theorem numbers_any (P : Nat → Prop) (b : Nat) (A : Option Addr) (cap : Nat) (L : List Int) (hL : L.length ≤ 300000) (hr : ∀ x ∈ L, 0 ≤ x ∧ x ≤ 2147483647) (xs : List UInt8) (hx : xs.length + 5 * L.length ≤ 599990000) (w : World)
    (hA : At w A L) (hP : L = [] ∨ ∀ k o, A = some ⟨k, o, none⟩ → P k) (hW : Wr P b w xs) :
    Calls Try.prog 56 #[.pointer (some ⟨b, 0, none⟩), .slice A L.length cap] w fun e w' => e = .returned (.tuple #[]) ∧ Turn P w w' ∧ Wr P b w' (xs ++ numsB L) := by
  have HA := hidP hA
  have HP := hidP hP
  have HW := hidP hW
  have HR := hidP hr
  clear hA hP hW hr
  go_enter Try.func56, Try.ntmps56
  go_wp2
  go_loopw [8] (fun i W => ∃ (n : Nat), i = .int .i64 (n : Int) ∧ n ≤ L.length ∧ Hid (Turn P w W) ∧ Hid (Wr P b W (xs ++ numsB (L.take n)))) (fun i _ => L.length - (intOf i).toNat)
  case atStart => exact ⟨0, rfl, by omega, Turn.refl _ _, by simpa [numsB] using HW⟩
  case round =>
    obtain ⟨n, rfl, hn, hT, hO⟩ := hrel
    by_cases hlt : n < L.length
    · obtain ⟨k, o, rfl, hbs, hin⟩ : ∃ b o, A = some ⟨b, o, none⟩ ∧ b < w.heap.size ∧ In w b o L := by
        rcases HA.out with h | h
        · subst h; simp at hlt
        · exact h
      have hPk : P k := by
        rcases HP.out with h | h
        · subst h; simp at hlt
        · exact h k o rfl
      have c0 := (hin.turn hT.out hPk).getInt n hlt
      have hi0 : (0 : Int) ≤ (n : Int) := by omega
      have hi1 : (n : Int) < (L.length : Int) := by omega
      have hto := hidP (numsB_take hlt)
      have hle : (xs ++ numsB (L.take n)).length ≤ 599990000 := by have := numsB_le (L.take n); rw [List.length_take] at this; rw [List.length_append]; omega
      have hrx := HR.out L[n] (List.getElem_mem hlt)
      obtain ⟨m, hm⟩ : ∃ m : Nat, L[n] = (m : Int) := ⟨(L[n]).toNat, by omega⟩
      rw [hm] at c0 hto hrx
      clear hin hm
      go_wp2_with fail
      refine (number_any P b m (by omega) _ (by omega) _ hO.out).mono ?_
      rintro e w1 ⟨rfl, t1, h1⟩
      have HT1 := hidP (hT.out.trans t1)
      rw [numI_nat (show m ≤ 2147483647 by omega)] at hto
      rw [List.append_assoc, ← hto.out] at h1
      have H1 := hidP h1
      clear t1 h1 hT hO
      go_wp2
      exact ⟨⟨n + 1, by go_num, by omega, HT1, H1⟩, by simp [intOf]; omega⟩
    · obtain rfl : n = L.length := by omega
      rw [List.take_length] at hO
      go_wp2
      go_end0
      exact ⟨rfl, hT.out, hO.out⟩
end Go.Proofs.Ytfbbifdfjjkknaa.Gen
