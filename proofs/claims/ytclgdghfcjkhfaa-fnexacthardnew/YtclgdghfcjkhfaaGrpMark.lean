/-
  Groups in blocks of their own: marked, and held. No condition but that its lists have at most 2000000 numbers.
-/
import Derived.Test.YtclgdghfcjkhfaaFps
import Derived.Test.YtclgdghfcjkhfaaGroups
namespace Go.Proofs.Ytclgdghfcjkhfaa.Gen
open Go.ChangeShapes Go.WideShapes Go.ChangeAt Go.RowKit Go.Joins Go.Deep Base
set_option linter.unusedVariables false

/-- Three lists in blocks of their own: F are all of them. -/
def Gp (w : World) (a1 a2 a3 : Option Addr) (m b o : List Int) (F : List Nat) : Prop :=
  ∃ F1 F2 F3, F = F1 ++ (F2 ++ F3) ∧ Sl w a1 m F1 ∧ Sl w a2 b F2 ∧ Sl w a3 o F3 ∧ F.Nodup
theorem Gp.off {F G : List Nat} {w w1 : World} {a1 a2 a3 : Option Addr} {m b o : List Int} (h : Gp w a1 a2 a3 m b o F) (k : Off G w w1) (hd : ∀ x ∈ F, x ∉ G) : Gp w1 a1 a2 a3 m b o F := by
  obtain ⟨F1, F2, F3, rfl, s1, s2, s3, hn⟩ := h
  exact ⟨F1, F2, F3, rfl, s1.off k fun x hx => hd x (by simp [hx]), s2.off k fun x hx => hd x (by simp [hx]), s3.off k fun x hx => hd x (by simp [hx]), hn⟩
theorem Gp.below {F : List Nat} {w w1 : World} {a1 a2 a3 : Option Addr} {m b o : List Int} (h : Gp w a1 a2 a3 m b o F) (k : Below w.heap.size w w1) : Gp w1 a1 a2 a3 m b o F := h.off (Off.of_below k) (by simp)
theorem Gp.alloc {F : List Nat} {w : World} {a1 a2 a3 : Option Addr} {m b o : List Int} (h : Gp w a1 a2 a3 m b o F) (ob : Obj) : Gp (w.alloc ob) a1 a2 a3 m b o F := h.below (alloc0 (Below.refl _ _) _)
theorem Gp.lt {F : List Nat} {w : World} {a1 a2 a3 : Option Addr} {m b o : List Int} (h : Gp w a1 a2 a3 m b o F) : ∀ x ∈ F, x < w.heap.size := by
  obtain ⟨F1, F2, F3, rfl, s1, s2, s3, hn⟩ := h
  intro x hx
  simp only [List.mem_append] at hx
  rcases hx with h | h | h
  · exact s1.lt x h
  · exact s2.lt x h
  · exact s3.lt x h
theorem Gp.at1 {F : List Nat} {w : World} {a1 a2 a3 : Option Addr} {m b o : List Int} (h : Gp w a1 a2 a3 m b o F) : At w a1 m := by obtain ⟨_, _, _, _, s, _⟩ := h; exact s.at
theorem Gp.at2 {F : List Nat} {w : World} {a1 a2 a3 : Option Addr} {m b o : List Int} (h : Gp w a1 a2 a3 m b o F) : At w a2 b := by obtain ⟨_, _, _, _, _, s, _⟩ := h; exact s.at
theorem Gp.at3 {F : List Nat} {w : World} {a1 a2 a3 : Option Addr} {m b o : List Int} (h : Gp w a1 a2 a3 m b o F) : At w a3 o := by obtain ⟨_, _, _, _, _, _, s, _⟩ := h; exact s.at
theorem Three.gp {n : Nat} {w : World} {x y z : Nat} {m b o : List Int} (h : Three n w x y z m b o) : ∃ F, Gp w (some ⟨x, 0, none⟩) (some ⟨y, 0, none⟩) (some ⟨z, 0, none⟩) m b o F ∧ ∀ k ∈ F, n ≤ k := by
  refine ⟨[x] ++ ([y] ++ [z]), ⟨[x], [y], [z], rfl, .inr ⟨x, 0, rfl, rfl, Nat.lt_trans h.xy (Nat.lt_trans h.yz h.zs), h.im, h.tm⟩, .inr ⟨y, 0, rfl, rfl, Nat.lt_trans h.yz h.zs, h.ib, h.tb⟩, .inr ⟨z, 0, rfl, rfl, h.zs, h.io, h.to⟩, ?_⟩, ?_⟩
  · have := h.xy; have := h.yz
    simp; omega
  · have := h.nx; have := h.xy; have := h.yz
    simp; omega

theorem mark_sl (a : Option Addr) (cap : Nat) (l : List Int) (F : List Nat) (k : Int) (hk : 1 ≤ k) (hk' : k ≤ 100000000) (hl : l.length ≤ 2000000) (w : World) (h : Sl w a l F) :
    Calls Try.prog 34 #[.slice a l.length cap, .int .i64 k] w fun e w' => e = .returned (.int .i64 (k + (l.length : Int))) ∧ Off F w w' ∧ Sl w' a (marksInt l.length k) F := by
  rcases h with ⟨rfl, rfl⟩ | ⟨b, o, rfl, rfl, hb, hi, ht⟩
  · refine (markInt_none a cap k w).mono ?_
    rintro e w' ⟨rfl, rfl⟩
    exact ⟨by simp, Off.refl _ _, .inl ⟨rfl, rfl⟩⟩
  · refine (markInt_any b o cap l.length k hk hk' hl w hb ht).mono ?_
    rintro e w' ⟨rfl, ho, hin, hth⟩
    exact ⟨rfl, Off.of_only ho, .inr ⟨b, o, rfl, rfl, Nat.lt_of_lt_of_le hb ho.size, hin, by rw [marksInt_length]; exact hth⟩⟩

end Go.Proofs.Ytclgdghfcjkhfaa.Gen
