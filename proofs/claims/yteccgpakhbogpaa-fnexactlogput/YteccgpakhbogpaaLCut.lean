/-
  Entries cut and copied: the three forms of a cut, copyOfEntries, cutOf, and From of both sides. No condition but that there are at most 1048576 entries.
-/
import Derived.Test.YteccgpakhbogpaaLGet
namespace Go.Proofs.Yteccgpakhbogpaa.Gen
open Go.ChangeShapes Go.WideShapes Go.ChangeAt Go.RowKit Go.Joins Go.Deep Base
set_option linter.unusedVariables false
set_option linter.unusedSimpArgs false

/-! ### Cuts -/
/-- Where a cut from i on leads, of which m is the end of what may be used. -/
def cutA (A : Option Addr) (m i : Nat) : Option Addr := if m = i then A else A.map (·.add (i * 9))
theorem cut_size (w : World) : (sizeOf 48).run Try.prog w = .ok 9 w := Try.sizeOf48 w
theorem cut_from (A : Option Addr) (n c i : Nat) (h1 : i ≤ n) (h2 : n ≤ c) (hc : c ≤ maxLen) (w : World) :
    (Instr.slice 27 (.slice A n c) (some (.int .i64 (i : Int))) none none).run Try.prog w = .ok (.slice (cutA A c i) (n - i) (c - i)) w := by
  have hc' : c ≤ 9223372036854775807 := hc
  by_cases h : c = i
  · simp [Instr.slice, run_underlying Try.underlying27, Instr.sliceBounds, Instr.sliceBound, asIntOf, cut_size, cutA, h, h1, h2]
  · simp [Instr.slice, run_underlying Try.underlying27, Instr.sliceBounds, Instr.sliceBound, asIntOf, cut_size, cutA, h, h1, h2]
theorem cut_three (A : Option Addr) (n c i j : Nat) (h1 : i ≤ j) (h2 : j ≤ c) (hc : c ≤ maxLen) (w : World) :
    (Instr.slice 27 (.slice A n c) (some (.int .i64 (i : Int))) (some (.int .i64 (j : Int))) (some (.int .i64 (j : Int)))).run Try.prog w = .ok (.slice (cutA A j i) (j - i) (j - i)) w := by
  have hc' : c ≤ 9223372036854775807 := hc
  by_cases h : j = i
  · simp [Instr.slice, run_underlying Try.underlying27, Instr.sliceBounds, Instr.sliceBound, asIntOf, cut_size, cutA, h, h1, h2]
    omega
  · simp [Instr.slice, run_underlying Try.underlying27, Instr.sliceBounds, Instr.sliceBound, asIntOf, cut_size, cutA, h, h1, h2]
theorem cut_to (A : Option Addr) (n c j : Nat) (h2 : j ≤ c) (hc : c ≤ maxLen) (w : World) :
    (Instr.slice 27 (.slice A n c) none (some (.int .i64 (j : Int))) none).run Try.prog w = .ok (.slice A j c) w := by
  have hc' : c ≤ 9223372036854775807 := hc
  have e : A.map (fun x => x.add 0) = A := by cases A <;> rfl
  simp [Instr.slice, run_underlying Try.underlying27, Instr.sliceBounds, Instr.sliceBound, asIntOf, cut_size, h2, e]

theorem In.take {α : Type} [Cel α] {w : World} {b o : Nat} {l : List α} (h : In w b o l) (n : Nat) : In w b o (l.take n) := fun j v hv => h j v (by
  have e : flat l = flat (l.take n) ++ flat (l.drop n) := by rw [← flat_append, List.take_append_drop]
  rw [e, List.getElem?_append_left (List.getElem?_eq_some_iff.1 hv).1]
  exact hv)
theorem At.take {α : Type} [Cel α] {w : World} {A : Option Addr} {l : List α} (h : At w A l) (n : Nat) : At w A (l.take n) := by
  rcases h with rfl | ⟨b, o, e, hb, hi⟩
  · left; simp
  · exact .inr ⟨b, o, e, hb, hi.take n⟩
theorem At.cut {w : World} {A : Option Addr} {l : List En} (h : At w A l) (m i : Nat) : At w (cutA A m i) ((l.take m).drop i) := by
  by_cases e : m = i
  · subst e; left; simp
  · rcases h with rfl | ⟨b, o, rfl, hb, hi⟩
    · left; simp
    · have e1 : cutA (some ⟨b, o, none⟩) m i = some ⟨b, o + i * 9, none⟩ := by unfold cutA; rw [if_neg e, Option.map_some, Addr.add_mid]
      rw [e1]
      exact .inr ⟨b, o + i * 9, rfl, hb, (hi.take m).drop i⟩
theorem At.cutFrom {w : World} {A : Option Addr} {l : List En} (h : At w A l) {m : Nat} (i : Nat) (hm : l.length ≤ m) : At w (cutA A m i) (l.drop i) := by
  have := h.cut m i
  rwa [List.take_of_length_le hm] at this

/-! ### Lists in memory of their own -/
/-- The list l as a new slice: all its memory is not below B. -/
def NewSl (B : Nat) (w : World) (v : Value) (l : List En) : Prop := ∃ a c F, v = .slice a l.length c ∧ l.length ≤ c ∧ c ≤ maxLen ∧ Sl w a l F ∧ (∀ x ∈ F, B ≤ x)
theorem newSl_owns {B n : Nat} {W : World} {v : Value} {l : List En} (hn : n = l.length) (h : W.ownsRow B 48 9 v n (flat l)) : NewSl B W v l := by
  subst hn
  have hf := fresh_owns (t := 48) h
  have hc : ∃ a c, v = .slice a l.length c ∧ l.length ≤ c ∧ c ≤ maxLen := by
    rcases h.2 with ⟨rfl, h0⟩ | ⟨g, c, cur, rfl, _, _, h1, h2, _⟩
    · exact ⟨none, 0, by rw [h0], by omega, by simp [maxLen]⟩
    · exact ⟨_, c, rfl, h1, h2⟩
  obtain ⟨a, c, rfl, h1, h2⟩ := hc
  obtain ⟨_, F, hs, hF⟩ := Sl.of_fresh hf
  exact ⟨a, c, F, rfl, h1, h2, hs, hF⟩
theorem newSl_mono {B C : Nat} {W : World} {v : Value} {l : List En} (h : NewSl B W v l) (hC : C ≤ B) : NewSl C W v l := by
  obtain ⟨a, c, F, e, h1, h2, hs, hF⟩ := h
  exact ⟨a, c, F, e, h1, h2, hs, fun x hx => Nat.le_trans hC (hF x hx)⟩
theorem newSl_below {B : Nat} {W W' : World} {v : Value} {l : List En} (h : NewSl B W v l) (g : Below W.heap.size W W') : NewSl B W' v l := by
  obtain ⟨a, c, F, e, h1, h2, hs, hF⟩ := h
  exact ⟨a, c, F, e, h1, h2, hs.below g, hF⟩
theorem own_noneE {B g : Nat} {W : World} (h : B ≤ W.heap.size) (hg : g = W.heap.size) : (W.alloc (.cells #[] 48)).ownsRow B 48 9 (.slice (some ⟨g, 0, none⟩) 0 0) 0 (flat ([] : List En)) := by
  subst hg
  exact ⟨by simp [flat], .inr ⟨W.heap.size, 0, #[], rfl, h, Blk.new W 48 #[], by simp, by simp [maxLen], rfl, rfl⟩⟩
/-- A list's entries appended to an empty list of one's own. -/
theorem copy_els (B : Nat) (v : Value) (m : List En) (A : Option Addr) (cap n : Nat) (w : World) (hn : n = m.length) (hB : B ≤ w.heap.size) (hv : w.ownsRow B 48 9 v 0 (flat ([] : List En))) (hvB : ∀ k, v.ownBlock = some k → B ≤ k) (hA : At w A m) (hlen : m.length ≤ 3000000) :
    ∃ v' w', (Builtin.append_ #[27, 27] 27 #[v, .slice A n cap]).run Try.prog w = .ok v' w' ∧ w'.ownsRow B 48 9 v' m.length (flat m) ∧ Below B w w' := by
  subst hn
  obtain ⟨v', w1, hr, hown, hgrow, hat⟩ := append_els (P := Try.prog) Try.underlying27 infoEn rfl (by decide) (by decide) B v ([] : List En) m A cap w hB hv hA (by simp; omega)
  simp only [List.length_nil, Nat.zero_add, List.nil_append] at hown
  refine ⟨v', w1, hr, hown, ?_⟩
  exact (Below.refl B w).grown hgrow hB (fun k e => hvB k e)

theorem copyOf_any (A : Option Addr) (cap : Nat) (l : List En) (hl : l.length ≤ 3000000) (w : World) (hA : At w A l) :
    Calls Try.prog 38 #[.slice A l.length cap] w fun e w' => ∃ v, e = .returned v ∧ NewSl w.heap.size w' v l ∧ Below w.heap.size w w' := by
  obtain ⟨v, w1, hr, hown, hbl⟩ := copy_els w.heap.size (.slice none 0 0) l A cap l.length w rfl (Nat.le_refl _) (World.ownsRow_nil _ _ _ _) (fun k e => by cases e) hA hl
  have HO := hidP (newSl_owns rfl hown)
  have HG := hidP hbl
  clear hown hbl hA
  go_enter Try.func38, Try.ntmps38
  go_wp2_with (at_builtin; refine wpList_append_is rfl _ _ _ rfl _ _ _ rfl rfl hr ?_)
  go_ret
  exact ⟨v, rfl, HO.out, HG.out⟩

theorem cutOf_any (A : Option Addr) (n c i j : Nat) (h1 : i ≤ j) (h2 : j ≤ c) (hc : c ≤ maxLen) (w : World) :
    Calls Try.prog 40 #[.slice A n c, .int .i64 (i : Int), .int .i64 (j : Int)] w fun e w' => e = .returned (.slice (cutA A j i) (j - i) (j - i)) ∧ w' = w := by
  have hs := cut_three A n c i j h1 h2 hc
  go_enter Try.func40, Try.ntmps40
  go_wp2
  go_ret
  exact ⟨rfl, rfl⟩

def fromL (base i : Int) (l : List En) : List En := match atN base i l with | none => [] | some n => l.drop n

end Go.Proofs.Yteccgpakhbogpaa.Gen
