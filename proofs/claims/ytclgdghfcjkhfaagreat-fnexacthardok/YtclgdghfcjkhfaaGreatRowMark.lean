/-
  The laws' markItemS, markRow, heldItemS and heldRow: marks are laid into one block alone, and are found there again. No condition but that the items are at most 1048576.
-/
import Derived.Test.YtclgdghfcjkhfaaGreatGen
import Derived.Test.YtclgdghfcjkhfaaGreatMarkText
import Derived.Deep.RegionHeld3
namespace Go.Proofs.YtclgdghfcjkhfaaGreat.Items
open Go.ChangeShapes Go.WideShapes Go.ChangeAt Go.RowKit Base
set_option linter.unusedVariables false

/-- Of what was there one block alone may have turned. -/
structure Only (b : Nat) (w w' : World) : Prop where
  os : w'.os = w.os
  tape : w'.tape = w.tape
  output : w'.output = w.output
  size : w.heap.size ≤ w'.heap.size
  block : ∀ k, k < w.heap.size → k ≠ b → w'.heap[k]? = w.heap[k]?

theorem Only.refl (b : Nat) (w : World) : Only b w w := ⟨rfl, rfl, rfl, Nat.le_refl _, fun _ _ _ => rfl⟩
theorem Only.below {b : Nat} {w w1 w2 : World} (h : Only b w w1) (k : Below w1.heap.size w1 w2) : Only b w w2 :=
  ⟨k.os.trans h.os, k.tape.trans h.tape, k.output.trans h.output, Nat.le_trans h.size k.size, fun i hi hb => (k.block i (Nat.lt_of_lt_of_le hi h.size)).trans (h.block i hi hb)⟩
theorem Only.set {b : Nat} {w w1 : World} (h : Only b w w1) (o : Nat) (v : Value) : Only b w (w1.setCell ⟨b, o, none⟩ v) :=
  ⟨h.os, h.tape, h.output, by simpa using h.size, fun i hi hb => (Below.heap_setCell w1 ⟨b, o, none⟩ v i hb).trans (h.block i hi hb)⟩
theorem Only.toBelow {b B : Nat} {w w1 : World} (h : Only b w w1) (hB : B ≤ b) (hw : B ≤ w.heap.size) : Below B w w1 :=
  ⟨h.os, h.tape, h.output, h.size, fun i hi => h.block i (by omega) (by omega)⟩
theorem Only.cell {b : Nat} {w w1 : World} (h : Only b w w1) {p : Addr} (hp : p.block < w.heap.size) (hb : p.block ≠ b) : w1.cell? p = w.cell? p := World.cell?_of_block (h.block p.block hp hb)
theorem Only.frozen {b : Nat} {w w1 : World} (h : Only b w w1) {p : Addr} (hp : p.block < w.heap.size) (hb : p.block ≠ b) : w1.frozen? p = w.frozen? p := World.frozen?_of_block (h.block p.block hp hb)
theorem In.only {b c o : Nat} {w w1 : World} {l : List It} (h : In w c o l) (k : Only b w w1) (hc : c < w.heap.size) (hb : c ≠ b) : In w1 c o l :=
  fun j v hv => (k.cell (p := ⟨c, o + j, none⟩) hc hb).trans (h j v hv)
theorem there_only {b c o n : Nat} {w w1 : World} (h : w.there c o n) (k : Only b w w1) (hc : c < w.heap.size) (hb : c ≠ b) : w1.there c o n := fun j hj => by
  rw [k.cell (p := ⟨c, o + j, none⟩) hc hb, k.frozen (p := ⟨c, o + j, none⟩) hc hb]; exact h j hj

theorem lt_set {b n : Nat} {w : World} {p : Addr} {v : Value} (h : b < w.heap.size) (k : (w.setCell p v).heap.size ≤ n) : b < n := by simp at k; omega

/-- The item of marks from z on. -/
def markI (z : Int) : It := ⟨z, markZ (z + 1), markZ (z + 2), z + 3, z + 4⟩
def marks (n : Nat) (z : Int) : List It := (List.range n).map fun (i : Nat) => markI (z + (i : Int) * 5)
theorem marks_length (n : Nat) (z : Int) : (marks n z).length = n := by simp [marks]
theorem marks_succ (n : Nat) (z : Int) : marks (n + 1) z = marks n z ++ [markI (z + (n : Int) * 5)] := by simp [marks, List.range_succ]
theorem marks_get (n : Nat) (z : Int) (i : Nat) (h : i < (marks n z).length) : (marks n z)[i] = markI (z + (i : Int) * 5) := by simp [marks]

theorem rangeAt_below {w w' : World} {b o : Nat} {cs : List Value} (h : w.rangeAt b o cs) (hb : b < w.heap.size) (hw : Below w.heap.size w w') : w'.rangeAt b o cs :=
  fun j v hv => (hw.cell (p := ⟨b, o + j, none⟩) hb).trans (h j v hv)

/-- A cell written behind those that are there. -/
theorem push {w : World} {b o q m : Nat} {cs : List Value} {v : Value} (h : w.rangeAt b o cs ∧ w.there b o m ∧ b < w.heap.size) (hl : cs.length < m) (hq : q = o + cs.length) :
    (w.setCell ⟨b, q, none⟩ v).rangeAt b o (cs ++ [v]) ∧ (w.setCell ⟨b, q, none⟩ v).there b o m ∧ b < (w.setCell ⟨b, q, none⟩ v).heap.size := by
  subst hq
  obtain ⟨h, ht, hb⟩ := h
  refine ⟨rangeAt_append (World.rangeAt_setCells_apart h b (o + cs.length) [v] (.inr (.inl (Nat.le_refl _)))) (World.rangeAt_setCells_same w b (o + cs.length) [v] fun j hj => ?_), World.there_setCells ht b _ [v], by simpa using hb⟩
  have hj' : j = 0 := by simp at hj; exact hj
  subst hj'
  exact ht cs.length hl
theorem call {w w' : World} {b o m : Nat} {cs : List Value} (h : w.rangeAt b o cs ∧ w.there b o m ∧ b < w.heap.size) (k : Below w.heap.size w w') : w'.rangeAt b o cs ∧ w'.there b o m ∧ b < w'.heap.size :=
  ⟨rangeAt_below h.1 h.2.2 k, there_below h.2.1 h.2.2 k, Nat.lt_of_lt_of_le h.2.2 k.size⟩

theorem marks_flat (n : Nat) (k z : Int) (hz : z = k + (n : Int) * 5) :
    flat (marks n k) ++ [.int .i64 z] ++ [.string (markZ (z + 1))] ++ [.string (markZ (z + 1 + 1))] ++ [.int .i64 (z + 1 + 1 + 1)] ++ [.int .i64 (z + 1 + 1 + 1 + 1)] = flat (marks (n + 1) k) := by
  subst hz
  have e2 : ∀ z : Int, z + 1 + 1 = z + 2 := fun z => by omega
  have e3 : ∀ z : Int, z + 1 + 1 + 1 = z + 3 := fun z => by omega
  have e4 : ∀ z : Int, z + 1 + 1 + 1 + 1 = z + 4 := fun z => by omega
  rw [marks_succ, flat_append, flat_one, e4, e3, e2]
  simp [It.cs, markI]

set_option maxHeartbeats 1000000 in
theorem markItemS_any (b o cap m : Nat) (k : Int) (hk : 1 ≤ k) (hk' : k ≤ 100000000) (hm : m ≤ 1048576) (w : World) (hb : b < w.heap.size) (hth : w.there b o (m * 5)) :
    Calls Tryz.prog 143 #[.slice (some ⟨b, o, none⟩) m cap, .int .i64 k] w fun e w' => e = .returned (.int .i64 (k + (m : Int) * 5)) ∧ Only b w w' ∧ In w' b o (marks m k) ∧ w'.there b o (m * 5) := by
  have HT : Hid (w.there b o (m * 5)) := hth
  clear hth
  go_enter Tryz.func143, Tryz.ntmps143
  go_wp2
  go_loopw [1, 5] (fun kk i w' => ∃ (n : Nat) (z : Int), i = .int .i64 (n : Int) ∧ kk = .int .i64 z ∧ n ≤ m ∧ 1 ≤ z ∧ z ≤ 900000000 ∧ Only b w w' ∧ Hid (z = k + (n : Int) * 5) ∧ Hid (In w' b o (marks n k)) ∧ Hid (w'.there b o (m * 5))) (fun _ i _ => m - (intOf i).toNat)
  case atStart => exact ⟨0, k, rfl, rfl, by omega, hk, by omega, Only.refl _ _, by simp [Hid], fun j v hv => by simp [marks, flat] at hv, HT.out⟩
  case round =>
    obtain ⟨n, z, rfl, rfl, hn, hz1, hz2, ho, hz, hin, hth⟩ := hrel
    by_cases hlt : n < m
    · have hT : ∀ f, f < 5 → (∃ v, wr.cell? ⟨b, o + n * 5 + f, none⟩ = some v) ∧ wr.frozen? ⟨b, o + n * 5 + f, none⟩ = false := fun f hf => by
        have := hth.out (n * 5 + f) (by omega)
        rw [← Nat.add_assoc] at this
        exact ⟨Option.isSome_iff_exists.1 this.1, this.2⟩
      obtain ⟨⟨v0, d0⟩, f0⟩ := hT 0 (by omega)
      rw [Nat.add_zero] at d0 f0
      obtain ⟨⟨v1, d1⟩, f1⟩ := hT 1 (by omega)
      obtain ⟨⟨v2, d2⟩, f2⟩ := hT 2 (by omega)
      obtain ⟨⟨v3, d3⟩, f3⟩ := hT 3 (by omega)
      obtain ⟨⟨v4, d4⟩, f4⟩ := hT 4 (by omega)
      clear hT
      have q1 : b < wr.heap.size := Nat.lt_of_lt_of_le hb ho.size
      go_wp2_with (go_at_call 142; refine (markText_at _ ?_ ?_ _).mono ?_; omega; omega; rintro e w1 ⟨rfl, g1⟩; obtain ⟨k1, m1⟩ := bcell g1; have s1 := g1.size; have q1 : b < w1.heap.size := lt_set q1 s1)
      have hlen : (flat (marks n k)).length = n * 5 := by rw [flat_length, marks_length]
      have P0 := push (v := .int .i64 z) (q := o + n * 5) ⟨hin.out, hth.out, Nat.lt_of_lt_of_le hb ho.size⟩ (by rw [hlen]; omega) (by rw [hlen])
      have P1 := push (v := .string (markZ (z + 1))) (q := o + n * 5 + 1) (call P0 (by assumption)) (by simp [hlen]; omega) (by simp [hlen]; omega)
      have P2 := push (v := .string (markZ (z + 1 + 1))) (q := o + n * 5 + 2) (call P1 g1) (by simp [hlen]; omega) (by simp [hlen]; omega)
      have P3 := push (v := .int .i64 (z + 1 + 1 + 1)) (q := o + n * 5 + 3) P2 (by simp [hlen]; omega) (by simp [hlen]; omega)
      have P4 := push (v := .int .i64 (z + 1 + 1 + 1 + 1)) (q := o + n * 5 + 4) P3 (by simp [hlen]; omega) (by simp [hlen]; omega)
      rw [marks_flat n k z hz.out] at P4
      have hz' := hz.out
      refine ⟨⟨n + 1, z + 1 + 1 + 1 + 1 + 1, by go_num, rfl, by omega, by omega, by omega, ?_, by show z + 1 + 1 + 1 + 1 + 1 = _; omega, P4.1, P4.2.1⟩, by simp [intOf]; omega⟩
      exact ((((((ho.set _ _).below (by assumption)).set _ _).below g1).set _ _).set _ _).set _ _
    · obtain rfl : n = m := by omega
      go_wp2
      go_ret
      have e := hz.out
      subst e
      exact ⟨rfl, ho, hin.out, hth.out⟩
end Go.Proofs.YtclgdghfcjkhfaaGreat.Items

/-
  The laws' heldItemS, markRow and heldRow: marks are found again where they were laid. No condition but that the items are at most 1048576.
-/
namespace Go.Proofs.YtclgdghfcjkhfaaGreat.Items
open Go.ChangeShapes Go.WideShapes Go.ChangeAt Go.RowKit Base
set_option linter.unusedVariables false

end Go.Proofs.YtclgdghfcjkhfaaGreat.Items

/-
  The laws' eqItem, eqItemS and eqRow: what holds the same items is told alike. No condition.
-/
namespace Go.Proofs.YtclgdghfcjkhfaaGreat.Items
open Go.ChangeShapes Go.WideShapes Go.ChangeAt Go.RowKit Base
set_option linter.unusedVariables false

theorem eqItem_same (off who time : Int) (k t : ByteArray) (w : World) :
    Calls Tryz.prog 178 #[.agg #[.int .i64 off, .string k, .string t, .int .i64 who, .int .i64 time], .agg #[.int .i64 off, .string k, .string t, .int .i64 who, .int .i64 time]] w fun e w' => e = .returned (.bool true) ∧ Below w.heap.size w w' := by
  go_enter Tryz.func178, Tryz.ntmps178
  go_wp2
  go_ret
  exact ⟨rfl, by repeat (first | exact Below.refl _ _ | refine via0 (by assumption) ?_ | refine Below.drew ?_ | refine alloc0 ?_ _)⟩

theorem eqItemS_same (A A' : Option Addr) (cap cap' : Nat) (l : List It) (hl : l.length ≤ 9223372036854775807) (w : World)
    (hA : l = [] ∨ ∃ b o, A = some ⟨b, o, none⟩ ∧ b < w.heap.size ∧ In w b o l) (hA' : l = [] ∨ ∃ b o, A' = some ⟨b, o, none⟩ ∧ b < w.heap.size ∧ In w b o l) :
    Calls Tryz.prog 157 #[.slice A l.length cap, .slice A' l.length cap'] w fun e w' => e = .returned (.bool true) ∧ Below w.heap.size w w' := by
  have HA : Hid (l = [] ∨ ∃ b o, A = some ⟨b, o, none⟩ ∧ b < w.heap.size ∧ In w b o l) := hA
  have HA' : Hid (l = [] ∨ ∃ b o, A' = some ⟨b, o, none⟩ ∧ b < w.heap.size ∧ In w b o l) := hA'
  clear hA hA'
  go_enter Tryz.func157, Tryz.ntmps157
  go_wp2
  go_loopw [5] (fun i w' => ∃ (n : Nat), i = .int .i64 (n : Int) ∧ n ≤ l.length ∧ Below w.heap.size w w') (fun i _ => l.length - (intOf i).toNat)
  case atStart => exact ⟨0, rfl, by omega, Below.refl _ _⟩
  case round =>
    obtain ⟨n, rfl, hn, hbl⟩ := hrel
    by_cases hlt : n < l.length
    · obtain ⟨b, o, rfl, hbs, hin⟩ : ∃ b o, A = some ⟨b, o, none⟩ ∧ b < w.heap.size ∧ In w b o l := by
        rcases HA.out with h | h
        · subst h; simp at hlt
        · exact h
      obtain ⟨b', o', rfl, hbs', hin'⟩ : ∃ b o, A' = some ⟨b, o, none⟩ ∧ b < w.heap.size ∧ In w b o l := by
        rcases HA'.out with h | h
        · subst h; simp at hlt
        · exact h
      obtain ⟨c0, c1, c2, c3, c4⟩ := (hin.below hbs hbl).get n hlt
      obtain ⟨d0, d1, d2, d3, d4⟩ := (hin'.below hbs' hbl).get n hlt
      have hb1 : b < wr.heap.size := Nat.lt_of_lt_of_le hbs hbl.size
      have hb2 : b' < wr.heap.size := Nat.lt_of_lt_of_le hbs' hbl.size
      have hi0 : (0 : Int) ≤ (n : Int) := by omega
      have hi1 : (n : Int) < (l.length : Int) := by omega
      go_wp2
      go_region_held3 (fun w' => w'.cell? ⟨b, o + n * 5, none⟩ = some (.int .i64 l[n].off) ∧ w'.cell? ⟨b, o + n * 5 + 1, none⟩ = some (.string l[n].key) ∧ w'.cell? ⟨b, o + n * 5 + 2, none⟩ = some (.string l[n].text) ∧ w'.cell? ⟨b, o + n * 5 + 3, none⟩ = some (.int .i64 l[n].who) ∧ w'.cell? ⟨b, o + n * 5 + 4, none⟩ = some (.int .i64 l[n].time) ∧
          w'.cell? ⟨b', o' + n * 5, none⟩ = some (.int .i64 l[n].off) ∧ w'.cell? ⟨b', o' + n * 5 + 1, none⟩ = some (.string l[n].key) ∧ w'.cell? ⟨b', o' + n * 5 + 2, none⟩ = some (.string l[n].text) ∧ w'.cell? ⟨b', o' + n * 5 + 3, none⟩ = some (.int .i64 l[n].who) ∧ w'.cell? ⟨b', o' + n * 5 + 4, none⟩ = some (.int .i64 l[n].time) ∧ wr.heap.size ≤ w'.heap.size)
        (first | (go_split_ands; refine ⟨?_, ?_, ?_, ?_, ?_, ?_, ?_, ?_, ?_, ?_, ?_⟩ <;> first | assumption | exact (k1 _ _ hb1).trans (by assumption) | exact (k1 _ _ hb2).trans (by assumption) | exact s1 | (simp; done)) | go_keep)
        (first
          | (go_at_call 178; refine (eqItem_same _ _ _ _ _ _).mono ?_; rintro e w1 ⟨rfl, g1⟩; obtain ⟨k1, m1⟩ := bcell g1; have s1 := g1.size))
      all_goals
        go_wp2
        exact ⟨⟨n + 1, by go_num, by omega, via0 g1 hbl.drew⟩, by simp [intOf]; omega⟩
    · go_wp2
      go_ret
      exact ⟨rfl, hbl⟩

theorem eqRow_same (start next : Int) (A A' : Option Addr) (cap cap' : Nat) (l : List It) (hl : l.length ≤ 9223372036854775807) (w : World)
    (hA : l = [] ∨ ∃ b o, A = some ⟨b, o, none⟩ ∧ b < w.heap.size ∧ In w b o l) (hA' : l = [] ∨ ∃ b o, A' = some ⟨b, o, none⟩ ∧ b < w.heap.size ∧ In w b o l) :
    Calls Tryz.prog 118 #[.agg #[.int .i64 start, .int .i64 next, .slice A l.length cap], .agg #[.int .i64 start, .int .i64 next, .slice A' l.length cap']] w fun e w' => e = .returned (.bool true) ∧ Below w.heap.size w w' := by
  have up : ∀ {A : Option Addr}, (l = [] ∨ ∃ b o, A = some ⟨b, o, none⟩ ∧ b < w.heap.size ∧ In w b o l) → ∀ W : World, Below w.heap.size w W → l = [] ∨ ∃ b o, A = some ⟨b, o, none⟩ ∧ b < W.heap.size ∧ In W b o l := fun hA W hW => by
    rcases hA with h | ⟨b, o, h1, h2, h3⟩
    · exact .inl h
    · exact .inr ⟨b, o, h1, Nat.lt_of_lt_of_le h2 hW.size, h3.below h2 hW⟩
  have HA : Hid (∀ W : World, Below w.heap.size w W → l = [] ∨ ∃ b o, A = some ⟨b, o, none⟩ ∧ b < W.heap.size ∧ In W b o l) := up hA
  have HA' : Hid (∀ W : World, Below w.heap.size w W → l = [] ∨ ∃ b o, A' = some ⟨b, o, none⟩ ∧ b < W.heap.size ∧ In W b o l) := up hA'
  clear hA hA' up
  go_enter Tryz.func118, Tryz.ntmps118
  go_wp2_with (go_at_call 157; refine (eqItemS_same A A' cap cap' l hl _ (HA.out _ ?_) (HA'.out _ ?_)).mono ?_; (repeat (first | exact Below.refl _ _ | refine via0 (by assumption) ?_ | refine Below.drew ?_ | refine alloc0 ?_ _)); (repeat (first | exact Below.refl _ _ | refine via0 (by assumption) ?_ | refine Below.drew ?_ | refine alloc0 ?_ _)); rintro e w1 ⟨rfl, g1⟩)
  go_ret
  refine ⟨rfl, ?_⟩
  repeat (first | exact Below.refl _ _ | refine via0 (by assumption) ?_ | refine Below.drew ?_ | refine alloc0 ?_ _)
end Go.Proofs.YtclgdghfcjkhfaaGreat.Items
