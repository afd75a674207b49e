/-
  The laws' eqItem, eqItemS and eqRow: what holds the same items is told alike. No condition.
-/
import Derived.Test.YtddijnmdeabjbaaGreatAns
set_option linter.unusedVariables false
set_option linter.unusedSimpArgs false
set_option maxRecDepth 100000
set_option maxHeartbeats 8000000
namespace Go.Proofs.YtddijnmdeabjbaaGreat.Items
open ChangeShapes WideShapes ChangeAt RowKit Base
theorem Qdp (off who time : Int) (k t : ByteArray) (w : World) :
 Calls Tryz.prog 182 #[.agg #[.int .i64 off, .string k, .string t, .int .i64 who, .int .i64 time], .agg #[.int .i64 off, .string k, .string t, .int .i64 who, .int .i64 time]] w fun e w' => e = .returned (.bool true) /\ Below w.heap.size w w' := by
 go_enter Tryz.func182, Tryz.ntmps182
 go_wp2
 go_ret
 exact ⟨rfl, by repeat (first | exact Below.refl _ _ | refine via0 (by assumption) ?_ | refine Below.drew ?_ | refine Qaa ?_ _)⟩
theorem Qc2 (A A' : Option Addr) (cap cap' : Nat) (l : List It) (hl : l.length <= 9223372036854775807) (w : World)
 (hA : l = [] ∨ ∃ b o, A = some ⟨b, o, none⟩ /\ b < w.heap.size /\ In w b o l) (hA' : l = [] ∨ ∃ b o, A' = some ⟨b, o, none⟩ /\ b < w.heap.size /\ In w b o l) :
 Calls Tryz.prog 176 #[.slice A l.length cap, .slice A' l.length cap'] w fun e w' => e = .returned (.bool true) /\ Below w.heap.size w w' := by
 have HA : Hid (l = [] ∨ ∃ b o, A = some ⟨b, o, none⟩ /\ b < w.heap.size /\ In w b o l) := hA
 have HA' : Hid (l = [] ∨ ∃ b o, A' = some ⟨b, o, none⟩ /\ b < w.heap.size /\ In w b o l) := hA'
 clear hA hA'
 go_enter Tryz.func176, Tryz.ntmps176
 go_wp2
 go_loopw [5] (fun i w' => ∃ (n : Nat), i = .int .i64 (n : Int) /\ n <= l.length /\ Below w.heap.size w w') (fun i _ => l.length - (intOf i).toNat)
 case atStart => exact ⟨0, rfl, by omega, Below.refl _ _⟩
 case round =>
  obtain ⟨n, rfl, hn, hbl⟩ := hrel
  by_cases hlt : n < l.length
  . obtain ⟨b, o, rfl, hbs, hin⟩ : ∃ b o, A = some ⟨b, o, none⟩ /\ b < w.heap.size /\ In w b o l := by
     rcases HA.out with h | h
     . subst h; simp at hlt
     . exact h
    obtain ⟨b', o', rfl, hbs', hin'⟩ : ∃ b o, A' = some ⟨b, o, none⟩ /\ b < w.heap.size /\ In w b o l := by
     rcases HA'.out with h | h
     . subst h; simp at hlt
     . exact h
    obtain ⟨c0, c1, c2, c3, c4⟩ := (hin.below hbs hbl).get n hlt
    obtain ⟨d0, d1, d2, d3, d4⟩ := (hin'.below hbs' hbl).get n hlt
    have hb1 : b < wr.heap.size := Nat.lt_of_lt_of_le hbs hbl.size
    have hb2 : b' < wr.heap.size := Nat.lt_of_lt_of_le hbs' hbl.size
    have hi0 : (0 : Int) <= (n : Int) := by omega
    have hi1 : (n : Int) < (l.length : Int) := by omega
    go_wp2
    go_region_held3 (fun w' => w'.cell? ⟨b, o + n * 5, none⟩ = some (.int .i64 l[n].off) /\ w'.cell? ⟨b, o + n * 5 + 1, none⟩ = some (.string l[n].key) /\ w'.cell? ⟨b, o + n * 5 + 2, none⟩ = some (.string l[n].text) /\ w'.cell? ⟨b, o + n * 5 + 3, none⟩ = some (.int .i64 l[n].who) /\ w'.cell? ⟨b, o + n * 5 + 4, none⟩ = some (.int .i64 l[n].time) /\
     w'.cell? ⟨b', o' + n * 5, none⟩ = some (.int .i64 l[n].off) /\ w'.cell? ⟨b', o' + n * 5 + 1, none⟩ = some (.string l[n].key) /\ w'.cell? ⟨b', o' + n * 5 + 2, none⟩ = some (.string l[n].text) /\ w'.cell? ⟨b', o' + n * 5 + 3, none⟩ = some (.int .i64 l[n].who) /\ w'.cell? ⟨b', o' + n * 5 + 4, none⟩ = some (.int .i64 l[n].time) /\ wr.heap.size <= w'.heap.size)
     (first | (go_split_ands; refine ⟨?_, ?_, ?_, ?_, ?_, ?_, ?_, ?_, ?_, ?_, ?_⟩<;>first | assumption | exact (k1 _ _ hb1).trans (by assumption) | exact (k1 _ _ hb2).trans (by assumption) | exact s1 | (simp; done)) | go_keep)
     (first
      | (go_at_call 182; refine (Qdp _ _ _ _ _ _).mono ?_; rintro e w1 ⟨rfl, g1⟩; obtain ⟨k1, m1⟩ := Qap g1; have s1 := g1.size))
    all_goals
     go_wp2
     exact ⟨⟨n + 1, by go_num, by omega, via0 g1 hbl.drew⟩, by simp [intOf]; omega⟩
  . go_wp2
    go_ret
    exact ⟨rfl, hbl⟩
theorem eqRow_same (start next : Int) (A A' : Option Addr) (cap cap' : Nat) (l : List It) (hl : l.length <= 9223372036854775807) (w : World)
 (hA : l = [] ∨ ∃ b o, A = some ⟨b, o, none⟩ /\ b < w.heap.size /\ In w b o l) (hA' : l = [] ∨ ∃ b o, A' = some ⟨b, o, none⟩ /\ b < w.heap.size /\ In w b o l) :
 Calls Tryz.prog 160 #[.agg #[.int .i64 start, .int .i64 next, .slice A l.length cap], .agg #[.int .i64 start, .int .i64 next, .slice A' l.length cap']] w fun e w' => e = .returned (.bool true) /\ Below w.heap.size w w' := by
 have up : ∀ {A : Option Addr}, (l = [] ∨ ∃ b o, A = some ⟨b, o, none⟩ /\ b < w.heap.size /\ In w b o l) -> ∀ W : World, Below w.heap.size w W -> l = [] ∨ ∃ b o, A = some ⟨b, o, none⟩ /\ b < W.heap.size /\ In W b o l := fun hA W hW => by
  rcases hA with h | ⟨b, o, h1, h2, h3⟩
  . exact .inl h
  . exact .inr ⟨b, o, h1, Nat.lt_of_lt_of_le h2 hW.size, h3.below h2 hW⟩
 have HA : Hid (∀ W : World, Below w.heap.size w W -> l = [] ∨ ∃ b o, A = some ⟨b, o, none⟩ /\ b < W.heap.size /\ In W b o l) := up hA
 have HA' : Hid (∀ W : World, Below w.heap.size w W -> l = [] ∨ ∃ b o, A' = some ⟨b, o, none⟩ /\ b < W.heap.size /\ In W b o l) := up hA'
 clear hA hA' up
 go_enter Tryz.func160, Tryz.ntmps160
 go_wp2_with (go_at_call 176; refine (Qc2 A A' cap cap' l hl _ (HA.out _ ?_) (HA'.out _ ?_)).mono ?_; (repeat (first | exact Below.refl _ _ | refine via0 (by assumption) ?_ | refine Below.drew ?_ | refine Qaa ?_ _)); (repeat (first | exact Below.refl _ _ | refine via0 (by assumption) ?_ | refine Below.drew ?_ | refine Qaa ?_ _)); rintro e w1 ⟨rfl, g1⟩)
 go_ret
 refine ⟨rfl, ?_⟩
 repeat (first | exact Below.refl _ _ | refine via0 (by assumption) ?_ | refine Below.drew ?_ | refine Qaa ?_ _)
end Go.Proofs.YtddijnmdeabjbaaGreat.Items
