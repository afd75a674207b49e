/-
  Texts that are drawn.
-/
import Derived.Test.YtjmaifmcoepfdaaDraws
import Derived.Test.YtjmaifmcoepfdaaTexts
namespace Go.Proofs.Ytjmaifmcoepfdaa.Gen
open Go.ChangeShapes Go.WideShapes Go.ChangeAt Go.RowKit Go.Joins Go.Deep Base
set_option linter.unusedVariables false
set_option linter.unusedSimpArgs false

structure St where
  s : ByteArray
instance : Inhabited St := ⟨⟨⟨#[]⟩⟩⟩
instance : Cel St where
  k := 1
  cs x := [.string x.s]
  len _ := rfl
  one x u hu := by simp at hu; subst hu; rfl
theorem In.getSt {w : World} {b o : Nat} {l : List St} (h : In w b o l) (i : Nat) (hi : i < l.length) : w.cell? ⟨b, o + i, none⟩ = some (.string l[i].s) := by
  have := h.cell i hi (f := 0) rfl
  rwa [show (Cel.k St) = 1 from rfl, Nat.mul_one, Nat.add_zero] at this

/-- One of a list of texts. -/
theorem pickS_any (C : Nat) (A : Option Addr) (cap : Nat) (l : List By) (b o c : Nat) (ns : List St) (h1 : 1 ≤ ns.length) (h2 : ns.length ≤ 256) (w : World) (hD : Drawn w C A cap l) (hb : b < w.heap.size) (hbC : b ≠ C) (hin : In w b o ns) :
    Calls Try.prog 39 #[.pointer (some ⟨C, 0, none⟩), .slice (some ⟨b, o, none⟩) ns.length c] w fun e w' => ∃ x ∈ ns, e = .returned (.string x.s) ∧ Only C w w' ∧ Drawn w' C A cap l := by
  have HD := hidP hD
  have Hin := hidP hin
  clear hD hin
  go_enter Try.func39, Try.ntmps39
  go_wp2_with fail
  refine (below_any C A cap l ns.length (by omega) (by omega) _ HD.out).mono ?_
  rintro e w1 ⟨x, rfl, hx0, hx1, k1, d1⟩
  obtain ⟨j, rfl⟩ : ∃ j : Nat, x = (j : Int) := ⟨x.toNat, by omega⟩
  have hj : j < ns.length := by omega
  have cx := (Hin.out.only k1 hb hbC).getSt j hj
  have hk := hidP k1
  have hd := hidP d1
  clear k1 d1
  go_wp2
  go_ret
  exact ⟨ns[j], List.getElem_mem hj, rfl, hk.out, hd.out⟩

def five : List St := [⟨⟨#[]⟩⟩, ⟨⟨#[97]⟩⟩, ⟨⟨#[98]⟩⟩, ⟨⟨#[107, 32, 49]⟩⟩, ⟨⟨#[116, 101, 120, 116]⟩⟩]
theorem five_right : ∀ x ∈ five, Items.textB x.s = true ∧ x.s.size ≤ 30 := by
  intro x hx
  simp only [five, List.mem_cons, List.not_mem_nil, or_false] at hx
  rcases hx with rfl | rfl | rfl | rfl | rfl <;> exact ⟨by decide +kernel, by decide⟩

theorem text_any (C : Nat) (A : Option Addr) (cap : Nat) (l : List By) (w : World) (hD : Drawn w C A cap l) :
    Calls Try.prog 80 #[.pointer (some ⟨C, 0, none⟩)] w fun e w' => ∃ k : ByteArray, e = .returned (.string k) ∧ Items.textB k = true ∧ k.size ≤ 30 ∧ Only C w w' ∧ Drawn w' C A cap l := by
  have HD := hidP hD
  have hC := hD.lt
  clear hD
  have bx := Blk.new w 9 #[.string ⟨#[]⟩, .string ⟨#[97]⟩, .string ⟨#[98]⟩, .string ⟨#[107, 32, 49]⟩, .string ⟨#[116, 101, 120, 116]⟩]
  have hin : In (w.alloc (.cells #[.string ⟨#[]⟩, .string ⟨#[97]⟩, .string ⟨#[98]⟩, .string ⟨#[107, 32, 49]⟩, .string ⟨#[116, 101, 120, 116]⟩] 9)) w.heap.size 0 five := fun j u hu => bx.cell (i := 0 + j) (by simpa [flat, Cel.cs, five] using hu)
  have Hin := hidP hin
  clear hin bx
  go_enter Try.func80, Try.ntmps80
  go_wp2_with fail
  refine (pickS_any C A cap l w.heap.size 0 5 five (by decide) (by decide) _ (HD.out.below (alloc0 (Below.refl _ _) _)) (by simp) (by omega) Hin.out).mono ?_
  rintro e w1 ⟨x, hx, rfl, k1, d1⟩
  have hk := hidP ((Only.of_below (c := C) (alloc0 (Below.refl _ w) _)).trans k1)
  have hd := hidP d1
  have hr := hidP (five_right x hx)
  clear k1 d1
  go_wp2
  go_ret
  exact ⟨x.s, rfl, hr.out.1, hr.out.2, hk.out, hd.out⟩
end Go.Proofs.Ytjmaifmcoepfdaa.Gen
