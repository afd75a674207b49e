/-
  The last number and Term of a log, a number's Term, and which log is newer: by the specification and by the program, the same. No condition but that there are at most 3000000 entries.
-/
import Derived.Test.YtenhcjkkpnlbeaaGreatDoorDkV
import Derived.WalkSmall
set_option linter.unusedVariables false
set_option linter.unusedSimpArgs false
set_option maxRecDepth 100000
set_option maxHeartbeats 8000000
namespace Go.Proofs.YtenhcjkkpnlbeaaGreatDoor.Gen
open ChangeShapes WideShapes ChangeAt RowKit Joins Deep Base
def Qc3 (base : Int) (l : List En) : Int := if l = [] then base else IntKind.i64.wrap (base + (l.length : Int))
def Qg6 (bt : Int) (l : List En) : Int := (l.getLast?.map En.term).getD bt
theorem Qiy (base bt : Int) (b o cap m : Nat) (hm : m + 1 <= 3000000) (t : Int) (w : World) (hb : b < w.heap.size) (hc : w.cell? ⟨b, o + m * 9, none⟩ = some (.int .i64 t)) :
 Calls Tryz.prog 72 #[.agg (Qay base bt (some ⟨b, o, none⟩) (m + 1) cap)] w fun e w' => e = .returned (.tuple #[.int .i64 (IntKind.i64.wrap (base + ((m + 1 : Nat) : Int))), .int .i64 t]) /\ Below w.heap.size w w' := by
 obtain ⟨s, hs⟩ : ∃ s, IntKind.i64.wrap (base + ((m + 1 : Nat) : Int)) = s := ⟨_, rfl⟩
 rw [hs]
 have hs1 : IntKind.i64.wrap (base + ((m : Int) + 1)) = s := by rw [← hs]; simp
 have Hs := hidP hs
 clear hs
 have hn : ¬ ((m : Int) + 1 = 0) := by omega
 have hi0 : (0 : Int) <= (m : Int) := by omega
 have hi1 : (m : Int) < (m : Int) + 1 := by omega
 have p1 := Blk.new w 42 (Qay base bt (some ⟨b, o, none⟩) (m + 1) cap)
 have hc1 : (w.alloc (.cells (Qay base bt (some ⟨b, o, none⟩) (m + 1) cap) 42)).cell? ⟨b, o + m * 9, none⟩ = some (.int .i64 t) := ((Qab (Below.refl w.heap.size w) _).cell (p := ⟨b, o + m * 9, none⟩) hb).trans hc
 have hbs : b < (w.alloc (.cells (Qay base bt (some ⟨b, o, none⟩) (m + 1) cap) 42)).heap.size := by simp; omega
 have B0 : Below w.heap.size w (w.alloc (.cells (Qay base bt (some ⟨b, o, none⟩) (m + 1) cap) 42)) := Qab (Below.refl _ _) _
 go_enter Tryz.func72, Tryz.ntmps72
 go_wp2_with fail
 go_quiet (fail)
 go_wp2
 go_ret2
 exact ⟨rfl, below_drewN B0 _⟩
theorem Qix (base bt : Int) (A : Option Addr) (cap : Nat) (w : World) :
 Calls Tryz.prog 72 #[.agg (Qay base bt A 0 cap)] w fun e w' => e = .returned (.tuple #[.int .i64 base, .int .i64 bt]) /\ Below w.heap.size w w' := by
 have B0 : Below w.heap.size w (w.alloc (.cells (Qay base bt A 0 cap) 42)) := Qab (Below.refl _ _) _
 go_enter Tryz.func72, Tryz.ntmps72
 go_wp2_with fail
 go_quiet (fail)
 go_wp2
 go_ret2
 exact ⟨rfl, below_drewN B0 _⟩
theorem Qf7 (base bt : Int) (A : Option Addr) (cap : Nat) (l : List En) (hl : l.length <= 3000000) (w : World) (hA : At w A l) :
 Calls Tryz.prog 72 #[.agg (Qay base bt A l.length cap)] w fun e w' => e = .returned (.tuple #[.int .i64 (Qc3 base l), .int .i64 (Qg6 bt l)]) /\ Below w.heap.size w w' := by
 by_cases h : l = []
 . subst h
   exact Qix base bt A cap w
 . obtain ⟨b, o, rfl, hbs, hIn⟩ := hA.resolve_left h
   obtain ⟨m, hm⟩ : ∃ m, l.length = m + 1 := ⟨l.length - 1, by have := List.length_pos_iff.2 h; omega⟩
   have hlt : m < l.length := by omega
   have c := (hIn.getEn m hlt).1
   have e1 : Qc3 base l = IntKind.i64.wrap (base + ((m + 1 : Nat) : Int)) := by unfold Qc3; rw [if_neg h, hm]
   have e2 : Qg6 bt l = l[m].term := by
    unfold Qg6
    rw [List.getLast?_eq_getElem?, hm, Nat.add_sub_cancel, List.getElem?_eq_getElem hlt]
    rfl
   rw [e1, e2, hm]
   exact Qiy base bt b o cap m (by omega) _ w hbs c
theorem Qjf (base bt : Int) (b o cap m : Nat) (hm : m + 1 <= 3000000) (t : Int) (w : World) (hb : b < w.heap.size) (hc : w.cell? ⟨b, o + m * 9, none⟩ = some (.int .i64 t)) :
 Calls Tryz.prog 122 #[.agg (Qay base bt (some ⟨b, o, none⟩) (m + 1) cap)] w fun e w' => e = .returned (.tuple #[.int .i64 (IntKind.i64.wrap (base + ((m + 1 : Nat) : Int))), .int .i64 t]) /\ Below w.heap.size w w' := by
 obtain ⟨s, hs⟩ : ∃ s, IntKind.i64.wrap (base + ((m + 1 : Nat) : Int)) = s := ⟨_, rfl⟩
 rw [hs]
 have hs1 : IntKind.i64.wrap (base + ((m : Int) + 1)) = s := by rw [← hs]; simp
 have Hs := hidP hs
 clear hs
 have hn : ¬ ((m : Int) + 1 = 0) := by omega
 have hi0 : (0 : Int) <= (m : Int) := by omega
 have hi1 : (m : Int) < (m : Int) + 1 := by omega
 have p1 := Blk.new w 42 (Qay base bt (some ⟨b, o, none⟩) (m + 1) cap)
 have hc1 : (w.alloc (.cells (Qay base bt (some ⟨b, o, none⟩) (m + 1) cap) 42)).cell? ⟨b, o + m * 9, none⟩ = some (.int .i64 t) := ((Qab (Below.refl w.heap.size w) _).cell (p := ⟨b, o + m * 9, none⟩) hb).trans hc
 have hbs : b < (w.alloc (.cells (Qay base bt (some ⟨b, o, none⟩) (m + 1) cap) 42)).heap.size := by simp; omega
 have B0 : Below w.heap.size w (w.alloc (.cells (Qay base bt (some ⟨b, o, none⟩) (m + 1) cap) 42)) := Qab (Below.refl _ _) _
 go_enter Tryz.func122, Tryz.ntmps122
 go_wp2_with fail
 go_quiet (fail)
 go_wp2
 go_ret2
 exact ⟨rfl, below_drewN B0 _⟩
theorem Qje (base bt : Int) (A : Option Addr) (cap : Nat) (w : World) :
 Calls Tryz.prog 122 #[.agg (Qay base bt A 0 cap)] w fun e w' => e = .returned (.tuple #[.int .i64 base, .int .i64 bt]) /\ Below w.heap.size w w' := by
 have B0 : Below w.heap.size w (w.alloc (.cells (Qay base bt A 0 cap) 42)) := Qab (Below.refl _ _) _
 go_enter Tryz.func122, Tryz.ntmps122
 go_wp2_with fail
 go_quiet (fail)
 go_wp2
 go_ret2
 exact ⟨rfl, below_drewN B0 _⟩
theorem Qgc (base bt : Int) (A : Option Addr) (cap : Nat) (l : List En) (hl : l.length <= 3000000) (w : World) (hA : At w A l) :
 Calls Tryz.prog 122 #[.agg (Qay base bt A l.length cap)] w fun e w' => e = .returned (.tuple #[.int .i64 (Qc3 base l), .int .i64 (Qg6 bt l)]) /\ Below w.heap.size w w' := by
 by_cases h : l = []
 . subst h
   exact Qje base bt A cap w
 . obtain ⟨b, o, rfl, hbs, hIn⟩ := hA.resolve_left h
   obtain ⟨m, hm⟩ : ∃ m, l.length = m + 1 := ⟨l.length - 1, by have := List.length_pos_iff.2 h; omega⟩
   have hlt : m < l.length := by omega
   have c := (hIn.getEn m hlt).1
   have e1 : Qc3 base l = IntKind.i64.wrap (base + ((m + 1 : Nat) : Int)) := by unfold Qc3; rw [if_neg h, hm]
   have e2 : Qg6 bt l = l[m].term := by
    unfold Qg6
    rw [List.getLast?_eq_getElem?, hm, Nat.add_sub_cancel, List.getElem?_eq_getElem hlt]
    rfl
   rw [e1, e2, hm]
   exact Qjf base bt b o cap m (by omega) _ w hbs c
end Go.Proofs.YtenhcjkkpnlbeaaGreatDoor.Gen
