/-
  Lists of answers: how they lie, what the laws' to, sz, eq, mark and held functions of them do; the argument opened. No condition but that there are at most 1048576, and the length that every text has.
-/
import Derived.Test.YtclgdghfcjkhfaaAns
import Derived.Test.YtclgdghfcjkhfaaRecs
import Derived.Test.YtclgdghfcjkhfaaMakList
import Derived.Test.YtclgdghfcjkhfaaMarkText
namespace Go.Proofs.Ytclgdghfcjkhfaa.Gen
open Go.ChangeShapes Go.WideShapes Go.ChangeAt Go.RowKit Go.Joins Go.Deep Base
set_option linter.unusedVariables false

/-- An answer as it is read. -/
structure An where
  code : Int
  n : Int
  key : ByteArray
  text : ByteArray
instance : Inhabited An := ⟨⟨0, 0, ⟨#[]⟩, ⟨#[]⟩⟩⟩
instance : Cel An where
  k := 4
  cs x := [.int .i64 x.code, .int .i64 x.n, .string x.key, .string x.text]
  len _ := rfl
  one x u hu := by simp at hu; rcases hu with rfl | rfl | rfl | rfl <;> rfl
def An.right (x : An) : Prop := I64 x.code ∧ I64 x.n ∧ x.key.size ≤ 9223372036854775807 ∧ x.text.size ≤ 9223372036854775807
def An.v (x : An) : Value := .agg #[.int .i64 x.code, .int .i64 x.n, .string x.key, .string x.text]

theorem In.getAn {w : World} {b o : Nat} {l : List An} (h : In w b o l) (i : Nat) (hi : i < l.length) :
    w.cell? ⟨b, o + i * 4, none⟩ = some (.int .i64 l[i].code) ∧ w.cell? ⟨b, o + i * 4 + 1, none⟩ = some (.int .i64 l[i].n) ∧ w.cell? ⟨b, o + i * 4 + 2, none⟩ = some (.string l[i].key) ∧ w.cell? ⟨b, o + i * 4 + 3, none⟩ = some (.string l[i].text) :=
  ⟨h.cell i hi (f := 0) rfl, h.cell i hi (f := 1) rfl, h.cell i hi (f := 2) rfl, h.cell i hi (f := 3) rfl⟩
theorem infoAn : (Try.prog.info? 82).map (fun i => (i.zero, i.size, i.bytes)) = some (some (.agg #[.int .i64 0, .int .i64 0, .string ⟨#[]⟩, .string ⟨#[]⟩]), 4, 48) := by kernel_rfl
def szAn (x : An) : Nat := x.key.size + x.text.size



theorem eqAnswer_same (code n : Int) (k t : ByteArray) (w : World) :
    Calls Try.prog 46 #[.agg #[.int .i64 code, .int .i64 n, .string k, .string t], .agg #[.int .i64 code, .int .i64 n, .string k, .string t]] w fun e w' => e = .returned (.bool true) ∧ Below w.heap.size w w' := by
  go_enter Try.func46, Try.ntmps46
  go_wp2
  go_ret
  exact ⟨rfl, by repeat (first | exact Below.refl _ _ | assumption | refine via0 (by assumption) ?_ | refine Below.drew ?_ | refine alloc0 ?_ _)⟩

set_option maxRecDepth 100000 in
set_option maxHeartbeats 1000000 in
theorem eqAnswerS_same (A A' : Option Addr) (cap cap' : Nat) (l : List An) (hl : l.length ≤ 9223372036854775807) (w : World) (hA : At w A l) (hA' : At w A' l) :
    Calls Try.prog 29 #[.slice A l.length cap, .slice A' l.length cap'] w fun e w' => e = .returned (.bool true) ∧ Below w.heap.size w w' := by
  have HA := hidP hA
  have HA' := hidP hA'
  clear hA hA'
  go_enter Try.func29, Try.ntmps29
  go_wp2
  go_loopw [5] (fun i w' => ∃ (n : Nat), i = .int .i64 (n : Int) ∧ n ≤ l.length ∧ Below w.heap.size w w') (fun i _ => l.length - (intOf i).toNat)
  case atStart => exact ⟨0, rfl, by omega, Below.refl _ _⟩
  case round =>
    obtain ⟨n, rfl, hn, hbl⟩ := hrel
    by_cases hlt : n < l.length
    · obtain ⟨b, o, rfl, hbs, hin⟩ : ∃ b o, A = some ⟨b, o, none⟩ ∧ b < w.heap.size ∧ In w b o l := by
        rcases HA.out with h | h
        · subst h; simp at hlt
        · exact h
      obtain ⟨b', o', rfl, hbs', hin'⟩ : ∃ b o, A' = some ⟨b, o, none⟩ ∧ b < w.heap.size ∧ In w b o l := by
        rcases HA'.out with h | h
        · subst h; simp at hlt
        · exact h
      obtain ⟨c0, c1, c2, c3⟩ := (hin.below hbs hbl).getAn n hlt
      obtain ⟨d0, d1, d2, d3⟩ := (hin'.below hbs' hbl).getAn n hlt
      have hb1 : b < wr.heap.size := Nat.lt_of_lt_of_le hbs hbl.size
      have hb2 : b' < wr.heap.size := Nat.lt_of_lt_of_le hbs' hbl.size
      have hi0 : (0 : Int) ≤ (n : Int) := by omega
      have hi1 : (n : Int) < (l.length : Int) := by omega
      go_wp2
      go_region_held3 (fun w' => w'.cell? ⟨b, o + n * 4, none⟩ = some (.int .i64 l[n].code) ∧ w'.cell? ⟨b, o + n * 4 + 1, none⟩ = some (.int .i64 l[n].n) ∧ w'.cell? ⟨b, o + n * 4 + 2, none⟩ = some (.string l[n].key) ∧ w'.cell? ⟨b, o + n * 4 + 3, none⟩ = some (.string l[n].text) ∧
          w'.cell? ⟨b', o' + n * 4, none⟩ = some (.int .i64 l[n].code) ∧ w'.cell? ⟨b', o' + n * 4 + 1, none⟩ = some (.int .i64 l[n].n) ∧ w'.cell? ⟨b', o' + n * 4 + 2, none⟩ = some (.string l[n].key) ∧ w'.cell? ⟨b', o' + n * 4 + 3, none⟩ = some (.string l[n].text) ∧ wr.heap.size ≤ w'.heap.size)
        (first | (go_split_ands; refine ⟨?_, ?_, ?_, ?_, ?_, ?_, ?_, ?_, ?_⟩ <;> first | assumption | exact (k1 _ _ hb1).trans (by assumption) | exact (k1 _ _ hb2).trans (by assumption) | exact s1 | (simp; done)) | go_keep)
        (first
          | (go_at_call 46; refine (eqAnswer_same _ _ _ _ _).mono ?_; rintro e w1 ⟨rfl, g1⟩; obtain ⟨k1, m1⟩ := bcell g1; have s1 := g1.size))
      all_goals
        go_wp2
        exact ⟨⟨n + 1, by go_num, by omega, via0 g1 hbl.drew⟩, by simp [intOf]; omega⟩
    · go_wp2
      go_ret
      exact ⟨rfl, hbl⟩

/-- The answer of marks from z on. -/
def markAn (z : Int) : An := ⟨z, z + 1, Items.markZ (z + 2), Items.markZ (z + 3)⟩
def marksAn (n : Nat) (z : Int) : List An := (List.range n).map fun (i : Nat) => markAn (z + (i : Int) * 4)
theorem marksAn_length (n : Nat) (z : Int) : (marksAn n z).length = n := by simp [marksAn]
theorem marksAn_succ (n : Nat) (z : Int) : marksAn (n + 1) z = marksAn n z ++ [markAn (z + (n : Int) * 4)] := by simp [marksAn, List.range_succ]
theorem marksAn_get (n : Nat) (z : Int) (i : Nat) (h : i < (marksAn n z).length) : (marksAn n z)[i] = markAn (z + (i : Int) * 4) := by simp [marksAn]
theorem marksAn_flat (n : Nat) (k z : Int) (hz : z = k + (n : Int) * 4) :
    flat (marksAn n k) ++ [.int .i64 z] ++ [.int .i64 (z + 1)] ++ [.string (Items.markZ (z + 1 + 1))] ++ [.string (Items.markZ (z + 1 + 1 + 1))] = flat (marksAn (n + 1) k) := by
  subst hz
  have e2 : ∀ z : Int, z + 1 + 1 = z + 2 := fun z => by omega
  have e3 : ∀ z : Int, z + 1 + 1 + 1 = z + 3 := fun z => by omega
  rw [marksAn_succ, flat_append, flat_one, e3, e2]
  simp [Cel.cs, markAn]

set_option maxRecDepth 100000 in
set_option maxHeartbeats 1000000 in
theorem markAnswerS_any (b o cap m : Nat) (k : Int) (hk : 1 ≤ k) (hk' : k ≤ 100000000) (hm : m ≤ 1048576) (w : World) (hb : b < w.heap.size) (hth : w.there b o (m * 4)) :
    Calls Try.prog 35 #[.slice (some ⟨b, o, none⟩) m cap, .int .i64 k] w fun e w' => e = .returned (.int .i64 (k + (m : Int) * 4)) ∧ Only b w w' ∧ In w' b o (marksAn m k) ∧ w'.there b o (m * 4) := by
  have HT := hidP hth
  clear hth
  go_enter Try.func35, Try.ntmps35
  go_wp2
  go_loopw [1, 5] (fun kk i w' => ∃ (n : Nat) (z : Int), i = .int .i64 (n : Int) ∧ kk = .int .i64 z ∧ n ≤ m ∧ 1 ≤ z ∧ z ≤ 900000000 ∧ Only b w w' ∧ Hid (z = k + (n : Int) * 4) ∧ Hid (In w' b o (marksAn n k)) ∧ Hid (w'.there b o (m * 4))) (fun _ i _ => m - (intOf i).toNat)
  case atStart => exact ⟨0, k, rfl, rfl, by omega, hk, by omega, Only.refl _ _, by simp [Hid], In.nil _ _ _, HT.out⟩
  case round =>
    obtain ⟨n, z, rfl, rfl, hn, hz1, hz2, ho, hz, hin, hth⟩ := hrel
    by_cases hlt : n < m
    · obtain ⟨⟨v0, d0⟩, f0⟩ := there_at (f := 0) hth.out hlt (by omega)
      rw [Nat.add_zero] at d0 f0
      obtain ⟨⟨v1, d1⟩, f1⟩ := there_at (f := 1) hth.out hlt (by omega)
      obtain ⟨⟨v2, d2⟩, f2⟩ := there_at (f := 2) hth.out hlt (by omega)
      obtain ⟨⟨v3, d3⟩, f3⟩ := there_at (f := 3) hth.out hlt (by omega)
      have q1 : b < wr.heap.size := Nat.lt_of_lt_of_le hb ho.size
      go_wp2_with (go_at_call 47; refine (Items.markText_at _ ?_ ?_ _).mono ?_; omega; omega; rintro e w1 ⟨rfl, g1⟩; obtain ⟨k1, m1⟩ := bcell g1; have s1 := g1.size; have q1 : b < w1.heap.size := (by first | exact lt_set q1 s1 | exact lt_set (lt_set q1 (Nat.le_refl _)) s1))
      have hlen : (flat (marksAn n k)).length = n * 4 := by rw [flat_length, marksAn_length]; rfl
      have P0 := push (v := .int .i64 z) (q := o + n * 4) ⟨hin.out, hth.out, Nat.lt_of_lt_of_le hb ho.size⟩ (by rw [hlen]; omega) (by rw [hlen])
      have P1 := push (v := .int .i64 (z + 1)) (q := o + n * 4 + 1) P0 (by simp [hlen]; omega) (by simp [hlen]; omega)
      have P2 := push (v := .string (Items.markZ (z + 1 + 1))) (q := o + n * 4 + 2) (pushcall P1 (by assumption)) (by simp [hlen]; omega) (by simp [hlen]; omega)
      have P3 := push (v := .string (Items.markZ (z + 1 + 1 + 1))) (q := o + n * 4 + 3) (pushcall P2 g1) (by simp [hlen]; omega) (by simp [hlen]; omega)
      rw [marksAn_flat n k z hz.out] at P3
      have hz' := hz.out
      refine ⟨⟨n + 1, z + 1 + 1 + 1 + 1, by go_num, rfl, by omega, by omega, by omega, ?_, by show z + 1 + 1 + 1 + 1 = _; omega, P3.1, P3.2.1⟩, by simp [intOf]; omega⟩
      exact (((((ho.set _ _).set _ _).below (by assumption)).set _ _).below g1).set _ _
    · obtain rfl : n = m := by omega
      go_wp2
      go_ret
      have e := hz.out
      subst e
      exact ⟨rfl, ho, hin.out, hth.out⟩

set_option maxRecDepth 100000 in
set_option maxHeartbeats 1000000 in
theorem heldAnswerS_any (A : Option Addr) (cap m : Nat) (k : Int) (hk : 1 ≤ k) (hk' : k ≤ 100000000) (hm : m ≤ 1048576) (w : World)
    (hA : m = 0 ∨ ∃ b o, A = some ⟨b, o, none⟩ ∧ b < w.heap.size ∧ In w b o (marksAn m k)) :
    Calls Try.prog 41 #[.slice A m cap, .int .i64 k] w fun e w' => e = .returned (.int .i64 (k + (m : Int) * 4)) ∧ Below w.heap.size w w' := by
  have HA := hidP hA
  clear hA
  go_enter Try.func41, Try.ntmps41
  go_wp2
  go_loopw [1, 5] (fun kk i w' => ∃ (n : Nat) (z : Int), i = .int .i64 (n : Int) ∧ kk = .int .i64 z ∧ n ≤ m ∧ 1 ≤ z ∧ z ≤ 900000000 ∧ Hid (z = k + (n : Int) * 4) ∧ Below w.heap.size w w') (fun _ i _ => m - (intOf i).toNat)
  case atStart => exact ⟨0, k, rfl, rfl, by omega, hk, by omega, by simp [Hid], Below.refl _ _⟩
  case round =>
    obtain ⟨n, z, rfl, rfl, hn, hz1, hz2, hz, hbl⟩ := hrel
    by_cases hlt : n < m
    · obtain ⟨b, o, rfl, hbs, hin⟩ : ∃ b o, A = some ⟨b, o, none⟩ ∧ b < w.heap.size ∧ In w b o (marksAn m k) := by
        rcases HA.out with h | h
        · omega
        · exact h
      have hb1 : b < wr.heap.size := Nat.lt_of_lt_of_le hbs hbl.size
      obtain ⟨c0, c1, c2, c3⟩ : wr.cell? ⟨b, o + n * 4, none⟩ = some (.int .i64 z) ∧ wr.cell? ⟨b, o + n * 4 + 1, none⟩ = some (.int .i64 (z + 1)) ∧ wr.cell? ⟨b, o + n * 4 + 2, none⟩ = some (.string (Items.markZ (z + 1 + 1))) ∧
          wr.cell? ⟨b, o + n * 4 + 3, none⟩ = some (.string (Items.markZ (z + 1 + 1 + 1))) := by
        have h := (hin.below hbs hbl).getAn n (by rw [marksAn_length]; exact hlt)
        rw [marksAn_get] at h
        have e2 : z + 1 + 1 = z + 2 := by omega
        have e3 : z + 1 + 1 + 1 = z + 3 := by omega
        rw [e3, e2, hz.out]
        exact h
      have hi0 : (0 : Int) ≤ (n : Int) := by omega
      have hi1 : (n : Int) < (m : Int) := by omega
      go_wp2
      go_region_held3 (fun w' => w'.cell? ⟨b, o + n * 4 + 2, none⟩ = some (.string (Items.markZ (z + 1 + 1))) ∧ w'.cell? ⟨b, o + n * 4 + 3, none⟩ = some (.string (Items.markZ (z + 1 + 1 + 1))) ∧ b < w'.heap.size)
        (first | (go_split_ands; refine ⟨?_, ?_, ?_⟩ <;> first | assumption | exact (k1 _ _ (by assumption)).trans (by assumption) | exact Nat.lt_of_lt_of_le (by assumption) s1 | (simp; done)) | go_keep)
        (first
          | (go_at_call 47; refine (Items.markText_at _ ?_ ?_ _).mono ?_; omega; omega; rintro e w1 ⟨rfl, g1⟩; obtain ⟨k1, m1⟩ := bcell g1; have s1 := g1.size))
      go_split_ands
      go_wp2
      go_region_held3 (fun w' => w'.cell? ⟨b, o + n * 4 + 3, none⟩ = some (.string (Items.markZ (z + 1 + 1 + 1))) ∧ b < w'.heap.size)
        (first | (go_split_ands; refine ⟨?_, ?_⟩ <;> first | assumption | exact (k2 _ _ (by assumption)).trans (by assumption) | exact Nat.lt_of_lt_of_le (by assumption) s2 | (simp; done)) | go_keep)
        (first
          | (go_at_call 47; refine (Items.markText_at _ ?_ ?_ _).mono ?_; omega; omega; rintro e w2 ⟨rfl, g2⟩; obtain ⟨k2, m2⟩ := bcell g2; have s2 := g2.size))
      go_split_ands
      go_wp2
      have hz' := hz.out
      exact ⟨⟨n + 1, z + 1 + 1 + 1 + 1, by go_num, rfl, by omega, by omega, by omega, by show z + 1 + 1 + 1 + 1 = _; omega, via0 g2 (via0 g1 hbl.drew).drew⟩, by simp [intOf]; omega⟩
    · obtain rfl : n = m := by omega
      go_wp2
      go_ret
      have e := hz.out
      subst e
      exact ⟨rfl, hbl⟩

end Go.Proofs.Ytclgdghfcjkhfaa.Gen
