/-
  The laws' markItemS, markRow, heldItemS and heldRow: marks are laid into one block alone, and are found there again. No condition but that the items are at most 1048576.
-/
import Derived.Test.YtmdaammalacifaaGreatRowTo
import Derived.Deep.RegionHeld3
set_option linter.unusedVariables false
set_option linter.unusedSimpArgs false
set_option maxRecDepth 100000
set_option maxHeartbeats 8000000
namespace Go.Proofs.YtmdaammalacifaaGreat.Items
open ChangeShapes WideShapes ChangeAt RowKit Base
structure Only (b : Nat) (w w' : World) : Prop where
  os : w'.os = w.os
  tape : w'.tape = w.tape
  output : w'.output = w.output
  size : w.heap.size <= w'.heap.size
  block : ∀ k, k < w.heap.size -> k ≠ b -> w'.heap[k]? = w.heap[k]?
theorem Only.refl (b : Nat) (w : World) : Only b w w := ⟨rfl, rfl, rfl, Nat.le_refl _, fun _ _ _ => rfl⟩
theorem Only.below {b : Nat} {w w1 w2 : World} (h : Only b w w1) (k : Below w1.heap.size w1 w2) : Only b w w2 :=
 ⟨k.os.trans h.os, k.tape.trans h.tape, k.output.trans h.output, Nat.le_trans h.size k.size, fun i hi hb => (k.block i (Nat.lt_of_lt_of_le hi h.size)).trans (h.block i hi hb)⟩
theorem Only.set {b : Nat} {w w1 : World} (h : Only b w w1) (o : Nat) (v : Value) : Only b w (w1.setCell ⟨b, o, none⟩ v) :=
 ⟨h.os, h.tape, h.output, by simpa using h.size, fun i hi hb => (Below.heap_setCell w1 ⟨b, o, none⟩ v i hb).trans (h.block i hi hb)⟩
theorem Qf5 {b n : Nat} {w : World} {p : Addr} {v : Value} (h : b < w.heap.size) (k : (w.setCell p v).heap.size <= n) : b < n := by simp at k; omega
def markI (z : Int) : It := ⟨z, markZ (z + 1), markZ (z + 2), z + 3, z + 4⟩
def marks (n : Nat) (z : Int) : List It := (List.range n).map fun (i : Nat) => markI (z + (i : Int) * 5)
theorem marks_length (n : Nat) (z : Int) : (marks n z).length = n := by simp [marks]
theorem marks_succ (n : Nat) (z : Int) : marks (n + 1) z = marks n z ++ [markI (z + (n : Int) * 5)] := by simp [marks, List.range_succ]
theorem marks_get (n : Nat) (z : Int) (i : Nat) (h : i < (marks n z).length) : (marks n z)[i] = markI (z + (i : Int) * 5) := by simp [marks]
theorem Qcj {w w' : World} {b o : Nat} {cs : List Value} (h : w.rangeAt b o cs) (hb : b < w.heap.size) (hw : Below w.heap.size w w') : w'.rangeAt b o cs :=
 fun j v hv => (hw.cell (p := ⟨b, o + j, none⟩) hb).trans (h j v hv)
theorem push {w : World} {b o q m : Nat} {cs : List Value} {v : Value} (h : w.rangeAt b o cs /\ w.there b o m /\ b < w.heap.size) (hl : cs.length < m) (hq : q = o + cs.length) :
 (w.setCell ⟨b, q, none⟩ v).rangeAt b o (cs ++ [v]) /\ (w.setCell ⟨b, q, none⟩ v).there b o m /\ b < (w.setCell ⟨b, q, none⟩ v).heap.size := by
 subst hq
 obtain ⟨h, ht, hb⟩ := h
 refine ⟨Qbg (World.rangeAt_setCells_apart h b (o + cs.length) [v] (.inr (.inl (Nat.le_refl _)))) (World.rangeAt_setCells_same w b (o + cs.length) [v] fun j hj => ?_), World.there_setCells ht b _ [v], by simpa using hb⟩
 have hj' : j = 0 := by simp at hj; exact hj
 subst hj'
 exact ht cs.length hl
theorem call {w w' : World} {b o m : Nat} {cs : List Value} (h : w.rangeAt b o cs /\ w.there b o m /\ b < w.heap.size) (k : Below w.heap.size w w') : w'.rangeAt b o cs /\ w'.there b o m /\ b < w'.heap.size :=
 ⟨Qcj h.1 h.2.2 k, Qa3 h.2.1 h.2.2 k, Nat.lt_of_lt_of_le h.2.2 k.size⟩
theorem marks_flat (n : Nat) (k z : Int) (hz : z = k + (n : Int) * 5) :
 flat (marks n k) ++ [.int .i64 z] ++ [.string (markZ (z + 1))] ++ [.string (markZ (z + 1 + 1))] ++ [.int .i64 (z + 1 + 1 + 1)] ++ [.int .i64 (z + 1 + 1 + 1 + 1)] = flat (marks (n + 1) k) := by
 subst hz
 have e2 : ∀ z : Int, z + 1 + 1 = z + 2 := fun z => by omega
 have e3 : ∀ z : Int, z + 1 + 1 + 1 = z + 3 := fun z => by omega
 have e4 : ∀ z : Int, z + 1 + 1 + 1 + 1 = z + 4 := fun z => by omega
 rw [marks_succ, Qa2, Qbe, e4, e3, e2]
 simp [It.cs, markI]
theorem markItemS_any (b o cap m : Nat) (k : Int) (hk : 1 <= k) (hk' : k <= 100000000) (hm : m <= 1048576) (w : World) (hb : b < w.heap.size) (hth : w.there b o (m * 5)) :
 Calls Tryz.prog 127 #[.slice (some ⟨b, o, none⟩) m cap, .int .i64 k] w fun e w' => e = .returned (.int .i64 (k + (m : Int) * 5)) /\ Only b w w' /\ In w' b o (marks m k) /\ w'.there b o (m * 5) := by
 have HT : Hid (w.there b o (m * 5)) := hth
 clear hth
 go_enter Tryz.func127, Tryz.ntmps127
 go_wp2
 go_loopw [1, 5] (fun kk i w' => ∃ (n : Nat) (z : Int), i = .int .i64 (n : Int) /\ kk = .int .i64 z /\ n <= m /\ 1 <= z /\ z <= 900000000 /\ Only b w w' /\ Hid (z = k + (n : Int) * 5) /\ Hid (In w' b o (marks n k)) /\ Hid (w'.there b o (m * 5))) (fun _ i _ => m - (intOf i).toNat)
 case atStart => exact ⟨0, k, rfl, rfl, by omega, hk, by omega, Only.refl _ _, by simp [Hid], fun j v hv => by simp [marks, flat] at hv, HT.out⟩
 case round =>
  obtain ⟨n, z, rfl, rfl, hn, hz1, hz2, ho, hz, hin, hth⟩ := hrel
  by_cases hlt : n < m
  . have hT : ∀ f, f < 5 -> (∃ v, wr.cell? ⟨b, o + n * 5 + f, none⟩ = some v) /\ wr.frozen? ⟨b, o + n * 5 + f, none⟩ = false := fun f hf => by
     have := hth.out (n * 5 + f) (by omega)
     rw [← Nat.add_assoc] at this
     exact ⟨Option.isSome_iff_exists.1 this.1, this.2⟩
    obtain ⟨⟨v0, d0⟩, f0⟩ := hT 0 (by omega)
    rw [Nat.add_zero] at d0 f0
    obtain ⟨⟨v1, d1⟩, f1⟩ := hT 1 (by omega)
    obtain ⟨⟨v2, d2⟩, f2⟩ := hT 2 (by omega)
    obtain ⟨⟨v3, d3⟩, f3⟩ := hT 3 (by omega)
    obtain ⟨⟨v4, d4⟩, f4⟩ := hT 4 (by omega)
    clear hT
    have q1 : b < wr.heap.size := Nat.lt_of_lt_of_le hb ho.size
    go_wp2_with (go_at_call 93; refine (markText_at _ ?_ ?_ _).mono ?_; omega; omega; rintro e w1 ⟨rfl, g1⟩; obtain ⟨k1, m1⟩ := Qbf g1; have s1 := g1.size; have q1 : b < w1.heap.size := Qf5 q1 s1)
    have hlen : (flat (marks n k)).length = n * 5 := by rw [Qaw, marks_length]
    have P0 := push (v := .int .i64 z) (q := o + n * 5) ⟨hin.out, hth.out, Nat.lt_of_lt_of_le hb ho.size⟩ (by rw [hlen]; omega) (by rw [hlen])
    have P1 := push (v := .string (markZ (z + 1))) (q := o + n * 5 + 1) (call P0 (by assumption)) (by simp [hlen]; omega) (by simp [hlen]; omega)
    have P2 := push (v := .string (markZ (z + 1 + 1))) (q := o + n * 5 + 2) (call P1 g1) (by simp [hlen]; omega) (by simp [hlen]; omega)
    have P3 := push (v := .int .i64 (z + 1 + 1 + 1)) (q := o + n * 5 + 3) P2 (by simp [hlen]; omega) (by simp [hlen]; omega)
    have P4 := push (v := .int .i64 (z + 1 + 1 + 1 + 1)) (q := o + n * 5 + 4) P3 (by simp [hlen]; omega) (by simp [hlen]; omega)
    rw [marks_flat n k z hz.out] at P4
    have hz' := hz.out
    refine ⟨⟨n + 1, z + 1 + 1 + 1 + 1 + 1, by go_num, rfl, by omega, by omega, by omega, ?_, by show z + 1 + 1 + 1 + 1 + 1 = _; omega, P4.1, P4.2.1⟩, by simp [intOf]; omega⟩
    exact ((((((ho.set _ _).below (by assumption)).set _ _).below g1).set _ _).set _ _).set _ _
  . obtain rfl : n = m := by omega
    go_wp2
    go_ret
    have e := hz.out
    subst e
    exact ⟨rfl, ho, hin.out, hth.out⟩
end Go.Proofs.YtmdaammalacifaaGreat.Items
namespace Go.Proofs.YtmdaammalacifaaGreat.Items
open ChangeShapes WideShapes ChangeAt RowKit Base
theorem heldItemS_any (A : Option Addr) (cap m : Nat) (k : Int) (hk : 1 <= k) (hk' : k <= 100000000) (hm : m <= 1048576) (w : World)
 (hA : m = 0 ∨ ∃ b o, A = some ⟨b, o, none⟩ /\ b < w.heap.size /\ In w b o (marks m k)) :
 Calls Tryz.prog 129 #[.slice A m cap, .int .i64 k] w fun e w' => e = .returned (.int .i64 (k + (m : Int) * 5)) /\ Below w.heap.size w w' := by
 have HA : Hid (m = 0 ∨ ∃ b o, A = some ⟨b, o, none⟩ /\ b < w.heap.size /\ In w b o (marks m k)) := hA
 clear hA
 go_enter Tryz.func129, Tryz.ntmps129
 go_wp2
 go_loopw [1, 5] (fun kk i w' => ∃ (n : Nat) (z : Int), i = .int .i64 (n : Int) /\ kk = .int .i64 z /\ n <= m /\ 1 <= z /\ z <= 900000000 /\ Hid (z = k + (n : Int) * 5) /\ Below w.heap.size w w') (fun _ i _ => m - (intOf i).toNat)
 case atStart => exact ⟨0, k, rfl, rfl, by omega, hk, by omega, by simp [Hid], Below.refl _ _⟩
 case round =>
  obtain ⟨n, z, rfl, rfl, hn, hz1, hz2, hz, hbl⟩ := hrel
  by_cases hlt : n < m
  . obtain ⟨b, o, rfl, hbs, hin⟩ : ∃ b o, A = some ⟨b, o, none⟩ /\ b < w.heap.size /\ In w b o (marks m k) := by
     rcases HA.out with h | h
     . omega
     . exact h
    have hb1 : b < wr.heap.size := Nat.lt_of_lt_of_le hbs hbl.size
    obtain ⟨c0, c1, c2, c3, c4⟩ : wr.cell? ⟨b, o + n * 5, none⟩ = some (.int .i64 z) /\ wr.cell? ⟨b, o + n * 5 + 1, none⟩ = some (.string (markZ (z + 1))) /\ wr.cell? ⟨b, o + n * 5 + 2, none⟩ = some (.string (markZ (z + 1 + 1))) /\
     wr.cell? ⟨b, o + n * 5 + 3, none⟩ = some (.int .i64 (z + 1 + 1 + 1)) /\ wr.cell? ⟨b, o + n * 5 + 4, none⟩ = some (.int .i64 (z + 1 + 1 + 1 + 1)) := by
     have h := (hin.below hbs hbl).get n (by rw [marks_length]; exact hlt)
     rw [marks_get] at h
     have e2 : z + 1 + 1 = z + 2 := by omega
     have e3 : z + 1 + 1 + 1 = z + 3 := by omega
     have e4 : z + 1 + 1 + 1 + 1 = z + 4 := by omega
     rw [e4, e3, e2, hz.out]
     exact h
    have hi0 : (0 : Int) <= (n : Int) := by omega
    have hi1 : (n : Int) < (m : Int) := by omega
    go_wp2
    go_region_held3 (fun w' => w'.cell? ⟨b, o + n * 5 + 1, none⟩ = some (.string (markZ (z + 1))) /\ w'.cell? ⟨b, o + n * 5 + 2, none⟩ = some (.string (markZ (z + 1 + 1))) /\ w'.cell? ⟨b, o + n * 5 + 3, none⟩ = some (.int .i64 (z + 1 + 1 + 1)) /\ w'.cell? ⟨b, o + n * 5 + 4, none⟩ = some (.int .i64 (z + 1 + 1 + 1 + 1)) /\ b < w'.heap.size)
     (first | (go_split_ands; refine ⟨?_, ?_, ?_, ?_, ?_⟩<;>first | assumption | exact (k1 _ _ (by assumption)).trans (by assumption) | exact Nat.lt_of_lt_of_le (by assumption) s1 | (simp; done)) | go_keep)
     (first
      | (go_at_call 93; refine (markText_at _ ?_ ?_ _).mono ?_; omega; omega; rintro e w1 ⟨rfl, g1⟩; obtain ⟨k1, m1⟩ := Qbf g1; have s1 := g1.size))
    go_split_ands
    go_wp2
    go_region_held3 (fun w' => w'.cell? ⟨b, o + n * 5 + 2, none⟩ = some (.string (markZ (z + 1 + 1))) /\ w'.cell? ⟨b, o + n * 5 + 3, none⟩ = some (.int .i64 (z + 1 + 1 + 1)) /\ w'.cell? ⟨b, o + n * 5 + 4, none⟩ = some (.int .i64 (z + 1 + 1 + 1 + 1)) /\ b < w'.heap.size)
     (first | (go_split_ands; refine ⟨?_, ?_, ?_, ?_⟩<;>first | assumption | exact (k2 _ _ (by assumption)).trans (by assumption) | exact Nat.lt_of_lt_of_le (by assumption) s2 | (simp; done)) | go_keep)
     (first
      | (go_at_call 93; refine (markText_at _ ?_ ?_ _).mono ?_; omega; omega; rintro e w2 ⟨rfl, g2⟩; obtain ⟨k2, m2⟩ := Qbf g2; have s2 := g2.size))
    go_split_ands
    go_wp2
    have hz' := hz.out
    exact ⟨⟨n + 1, z + 1 + 1 + 1 + 1 + 1, by go_num, rfl, by omega, by omega, by omega, by show z + 1 + 1 + 1 + 1 + 1 = _; omega, via0 g2 (via0 g1 hbl.drew).drew⟩, by simp [intOf]; omega⟩
  . obtain rfl : n = m := by omega
    go_wp2
    go_ret
    have e := hz.out
    subst e
    exact ⟨rfl, hbl⟩
end Go.Proofs.YtmdaammalacifaaGreat.Items
namespace Go.Proofs.YtmdaammalacifaaGreat.Items
open ChangeShapes WideShapes ChangeAt RowKit Base
theorem Qhe (off who time : Int) (k t : ByteArray) (w : World) :
 Calls Tryz.prog 140 #[.agg #[.int .i64 off, .string k, .string t, .int .i64 who, .int .i64 time], .agg #[.int .i64 off, .string k, .string t, .int .i64 who, .int .i64 time]] w fun e w' => e = .returned (.bool true) /\ Below w.heap.size w w' := by
 go_enter Tryz.func140, Tryz.ntmps140
 go_wp2
 go_ret
 exact ⟨rfl, by repeat (first | exact Below.refl _ _ | refine via0 (by assumption) ?_ | refine Below.drew ?_ | refine Qab ?_ _)⟩
theorem Qgg (A A' : Option Addr) (cap cap' : Nat) (l : List It) (hl : l.length <= 9223372036854775807) (w : World)
 (hA : l = [] ∨ ∃ b o, A = some ⟨b, o, none⟩ /\ b < w.heap.size /\ In w b o l) (hA' : l = [] ∨ ∃ b o, A' = some ⟨b, o, none⟩ /\ b < w.heap.size /\ In w b o l) :
 Calls Tryz.prog 135 #[.slice A l.length cap, .slice A' l.length cap'] w fun e w' => e = .returned (.bool true) /\ Below w.heap.size w w' := by
 have HA : Hid (l = [] ∨ ∃ b o, A = some ⟨b, o, none⟩ /\ b < w.heap.size /\ In w b o l) := hA
 have HA' : Hid (l = [] ∨ ∃ b o, A' = some ⟨b, o, none⟩ /\ b < w.heap.size /\ In w b o l) := hA'
 clear hA hA'
 go_enter Tryz.func135, Tryz.ntmps135
 go_wp2
 go_loopw [5] (fun i w' => ∃ (n : Nat), i = .int .i64 (n : Int) /\ n <= l.length /\ Below w.heap.size w w') (fun i _ => l.length - (intOf i).toNat)
 case atStart => exact ⟨0, rfl, by omega, Below.refl _ _⟩
 case round =>
  obtain ⟨n, rfl, hn, hbl⟩ := hrel
  by_cases hlt : n < l.length
  . obtain ⟨b, o, rfl, hbs, hin⟩ : ∃ b o, A = some ⟨b, o, none⟩ /\ b < w.heap.size /\ In w b o l := by
     rcases HA.out with h | h
     . subst h; simp at hlt
     . exact h
    obtain ⟨b', o', rfl, hbs', hin'⟩ : ∃ b o, A' = some ⟨b, o, none⟩ /\ b < w.heap.size /\ In w b o l := by
     rcases HA'.out with h | h
     . subst h; simp at hlt
     . exact h
    obtain ⟨c0, c1, c2, c3, c4⟩ := (hin.below hbs hbl).get n hlt
    obtain ⟨d0, d1, d2, d3, d4⟩ := (hin'.below hbs' hbl).get n hlt
    have hb1 : b < wr.heap.size := Nat.lt_of_lt_of_le hbs hbl.size
    have hb2 : b' < wr.heap.size := Nat.lt_of_lt_of_le hbs' hbl.size
    have hi0 : (0 : Int) <= (n : Int) := by omega
    have hi1 : (n : Int) < (l.length : Int) := by omega
    go_wp2
    go_region_held3 (fun w' => w'.cell? ⟨b, o + n * 5, none⟩ = some (.int .i64 l[n].off) /\ w'.cell? ⟨b, o + n * 5 + 1, none⟩ = some (.string l[n].key) /\ w'.cell? ⟨b, o + n * 5 + 2, none⟩ = some (.string l[n].text) /\ w'.cell? ⟨b, o + n * 5 + 3, none⟩ = some (.int .i64 l[n].who) /\ w'.cell? ⟨b, o + n * 5 + 4, none⟩ = some (.int .i64 l[n].time) /\
     w'.cell? ⟨b', o' + n * 5, none⟩ = some (.int .i64 l[n].off) /\ w'.cell? ⟨b', o' + n * 5 + 1, none⟩ = some (.string l[n].key) /\ w'.cell? ⟨b', o' + n * 5 + 2, none⟩ = some (.string l[n].text) /\ w'.cell? ⟨b', o' + n * 5 + 3, none⟩ = some (.int .i64 l[n].who) /\ w'.cell? ⟨b', o' + n * 5 + 4, none⟩ = some (.int .i64 l[n].time) /\ wr.heap.size <= w'.heap.size)
     (first | (go_split_ands; refine ⟨?_, ?_, ?_, ?_, ?_, ?_, ?_, ?_, ?_, ?_, ?_⟩<;>first | assumption | exact (k1 _ _ hb1).trans (by assumption) | exact (k1 _ _ hb2).trans (by assumption) | exact s1 | (simp; done)) | go_keep)
     (first
      | (go_at_call 140; refine (Qhe _ _ _ _ _ _).mono ?_; rintro e w1 ⟨rfl, g1⟩; obtain ⟨k1, m1⟩ := Qbf g1; have s1 := g1.size))
    all_goals
     go_wp2
     exact ⟨⟨n + 1, by go_num, by omega, via0 g1 hbl.drew⟩, by simp [intOf]; omega⟩
  . go_wp2
    go_ret
    exact ⟨rfl, hbl⟩
theorem eqRow_same (start next : Int) (A A' : Option Addr) (cap cap' : Nat) (l : List It) (hl : l.length <= 9223372036854775807) (w : World)
 (hA : l = [] ∨ ∃ b o, A = some ⟨b, o, none⟩ /\ b < w.heap.size /\ In w b o l) (hA' : l = [] ∨ ∃ b o, A' = some ⟨b, o, none⟩ /\ b < w.heap.size /\ In w b o l) :
 Calls Tryz.prog 122 #[.agg #[.int .i64 start, .int .i64 next, .slice A l.length cap], .agg #[.int .i64 start, .int .i64 next, .slice A' l.length cap']] w fun e w' => e = .returned (.bool true) /\ Below w.heap.size w w' := by
 have up : ∀ {A : Option Addr}, (l = [] ∨ ∃ b o, A = some ⟨b, o, none⟩ /\ b < w.heap.size /\ In w b o l) -> ∀ W : World, Below w.heap.size w W -> l = [] ∨ ∃ b o, A = some ⟨b, o, none⟩ /\ b < W.heap.size /\ In W b o l := fun hA W hW => by
  rcases hA with h | ⟨b, o, h1, h2, h3⟩
  . exact .inl h
  . exact .inr ⟨b, o, h1, Nat.lt_of_lt_of_le h2 hW.size, h3.below h2 hW⟩
 have HA : Hid (∀ W : World, Below w.heap.size w W -> l = [] ∨ ∃ b o, A = some ⟨b, o, none⟩ /\ b < W.heap.size /\ In W b o l) := up hA
 have HA' : Hid (∀ W : World, Below w.heap.size w W -> l = [] ∨ ∃ b o, A' = some ⟨b, o, none⟩ /\ b < W.heap.size /\ In W b o l) := up hA'
 clear hA hA' up
 go_enter Tryz.func122, Tryz.ntmps122
 go_wp2_with (go_at_call 135; refine (Qgg A A' cap cap' l hl _ (HA.out _ ?_) (HA'.out _ ?_)).mono ?_; (repeat (first | exact Below.refl _ _ | refine via0 (by assumption) ?_ | refine Below.drew ?_ | refine Qab ?_ _)); (repeat (first | exact Below.refl _ _ | refine via0 (by assumption) ?_ | refine Below.drew ?_ | refine Qab ?_ _)); rintro e w1 ⟨rfl, g1⟩)
 go_ret
 refine ⟨rfl, ?_⟩
 repeat (first | exact Below.refl _ _ | refine via0 (by assumption) ?_ | refine Below.drew ?_ | refine Qab ?_ _)
end Go.Proofs.YtmdaammalacifaaGreat.Items
