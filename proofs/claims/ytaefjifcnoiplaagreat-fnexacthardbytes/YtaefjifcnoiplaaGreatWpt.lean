/-
  Lists of bytes written piece by piece; lists that lie among what is kept. No condition.
-/
import Derived.Test.YtaefjifcnoiplaaGreatWr
namespace Go.Proofs.YtaefjifcnoiplaaGreat.Gen
open Go.ChangeShapes Go.WideShapes Go.ChangeAt Go.RowKit Go.Joins Go.Deep Base
set_option linter.unusedVariables false
theorem txtB_le {s : ByteArray} (h : s.size <= 30) : (txtB s).length <= 35 := by rw [txtB_length]; have := numB_le (n := s.size) (by omega); omega
theorem flat_le {α : Type} (f : α -> List UInt8) (k : Nat) (l : List α) (h : ∀ x ∈ l, (f x).length <= k) : (l.flatMap f).length <= k * l.length := by
  induction l with
  | nil => simp
  | cons x l ih =>
    rw [List.flatMap_cons, List.length_append, List.length_cons, Nat.mul_add]
    have := h x (by simp)
    have := ih (fun y hy => h y (by simp [hy]))
    omega
theorem flat_take {α : Type} (f : α -> List UInt8) {l : List α} {n : Nat} (h : n < l.length) : (l.take (n + 1)).flatMap f = (l.take n).flatMap f ++ f l[n] := by
  rw [List.take_succ_eq_append_getElem h, List.flatMap_append]
  simp
theorem flat_take_le {α : Type} (f : α -> List UInt8) (l : List α) (n : Nat) : ((l.take n).flatMap f).length <= (l.flatMap f).length := by
  conv => rhs; rw [← List.take_append_drop n l]
  rw [List.flatMap_append, List.length_append]
  omega
def Pt {α : Type} [Cel α] (P : Nat -> Prop) (w : World) (A : Option Addr) (L : List α) : Prop := At w A L /\ (L = [] ∨ ∀ k o, A = some ⟨k, o, none⟩ -> P k)
theorem Pt.turn {α : Type} [Cel α] {P : Nat -> Prop} {w w' : World} {A : Option Addr} {L : List α} (h : Pt P w A L) (g : Turn P w w') : Pt P w' A L := by
  refine ⟨?_, h.2⟩
  rcases h.2 with e | hP
  . exact .inl e
  . exact h.1.turn g hP
theorem Pt.mono {α : Type} [Cel α] {P Q : Nat -> Prop} {w : World} {A : Option Addr} {L : List α} (h : Pt P w A L) (hn : ∀ k, P k -> Q k) : Pt Q w A L := ⟨h.1, h.2.imp id fun f k o e => hn k (f k o e)⟩
theorem Wr.lt {P : Nat -> Prop} {b : Nat} {W : World} {xs : List UInt8} (h : Wr P b W xs) : ∀ k, P k -> k < W.heap.size := by obtain ⟨_, _, _, _, _, _, h⟩ := h; exact h
theorem numberI_any (P : Nat -> Prop) (b : Nat) (n : Int) (h0 : 0 <= n /\ n <= 2147483647) (xs : List UInt8) (hx : xs.length <= 599999000) (w : World) (hW : Wr P b w xs) :
    Calls Tryz.prog 159 #[.pointer (some ⟨b, 0, none⟩), .int .i64 n] w fun e w' => e = .returned (.tuple #[]) /\ Turn P w w' /\ Wr P b w' (xs ++ numI n) := by
  obtain ⟨m, rfl⟩ : ∃ m : Nat, n = (m : Int) := ⟨n.toNat, by omega⟩
  rw [numI_nat (show m <= 2147483647 by omega)]
  exact number_any P b m (by omega) xs hx w hW
end Go.Proofs.YtaefjifcnoiplaaGreat.Gen
