/-
  Lists of Mark records: how they lie, and what the laws' to, sz, eq, mark and held functions of them do. No condition but that there are at most 1048576.
-/
import Derived.Test.YtclgdghfcjkhfaaGen
namespace Go.Proofs.Ytclgdghfcjkhfaa.Gen
open Go.ChangeShapes Go.WideShapes Go.ChangeAt Go.RowKit Go.Joins Go.Deep Base
set_option linter.unusedVariables false

structure Mk where
  seq : Int
  off : Int

instance : Inhabited Mk := ⟨⟨0, 0⟩⟩
instance : Cel Mk where
  k := 2
  cs x := [.int .i64 x.seq, .int .i64 x.off]
  len _ := rfl
  one x u hu := by simp at hu; rcases hu with rfl | rfl <;> rfl

def Mk.right (x : Mk) : Prop := I64 x.seq ∧ I64 x.off

theorem In.getMk {w : World} {b o : Nat} {l : List Mk} (h : In w b o l) (i : Nat) (hi : i < l.length) :
    w.cell? ⟨b, o + i * 2, none⟩ = some (.int .i64 l[i].seq) ∧ w.cell? ⟨b, o + i * 2 + 1, none⟩ = some (.int .i64 l[i].off) :=
  ⟨h.cell i hi (f := 0) rfl, h.cell i hi (f := 1) rfl⟩

theorem infoMk : (Try.prog.info? 93).map (fun i => (i.zero, i.size, i.bytes)) = some (some (.agg #[.int .i64 0, .int .i64 0]), 2, 16) := by kernel_rfl
theorem eqMk_same (seq off : Int) (w : World) :
    Calls Try.prog 56 #[.agg #[.int .i64 seq, .int .i64 off], .agg #[.int .i64 seq, .int .i64 off]] w fun e w' => e = .returned (.bool true) ∧ Below w.heap.size w w' := by
  go_enter Try.func56, Try.ntmps56
  go_wp2
  go_ret
  exact ⟨rfl, by repeat (first | exact Below.refl _ _ | refine via0 (by assumption) ?_ | refine Below.drew ?_ | refine alloc0 ?_ _)⟩

theorem eqMkS_same (A A' : Option Addr) (cap cap' : Nat) (l : List Mk) (hl : l.length ≤ 9223372036854775807) (w : World) (hA : At w A l) (hA' : At w A' l) :
    Calls Try.prog 54 #[.slice A l.length cap, .slice A' l.length cap'] w fun e w' => e = .returned (.bool true) ∧ Below w.heap.size w w' := by
  have HA : Hid (At w A l) := hA
  have HA' : Hid (At w A' l) := hA'
  clear hA hA'
  go_enter Try.func54, Try.ntmps54
  go_wp2
  go_loopw [5] (fun i w' => ∃ (n : Nat), i = .int .i64 (n : Int) ∧ n ≤ l.length ∧ Below w.heap.size w w') (fun i _ => l.length - (intOf i).toNat)
  case atStart => exact ⟨0, rfl, by omega, Below.refl _ _⟩
  case round =>
    obtain ⟨n, rfl, hn, hbl⟩ := hrel
    by_cases hlt : n < l.length
    · obtain ⟨b, o, rfl, hbs, hin⟩ : ∃ b o, A = some ⟨b, o, none⟩ ∧ b < w.heap.size ∧ In w b o l := by
        rcases HA.out with h | h
        · subst h; simp at hlt
        · exact h
      obtain ⟨b', o', rfl, hbs', hin'⟩ : ∃ b o, A' = some ⟨b, o, none⟩ ∧ b < w.heap.size ∧ In w b o l := by
        rcases HA'.out with h | h
        · subst h; simp at hlt
        · exact h
      obtain ⟨c0, c1⟩ := (hin.below hbs hbl).getMk n hlt
      obtain ⟨d0, d1⟩ := (hin'.below hbs' hbl).getMk n hlt
      have hb1 : b < wr.heap.size := Nat.lt_of_lt_of_le hbs hbl.size
      have hb2 : b' < wr.heap.size := Nat.lt_of_lt_of_le hbs' hbl.size
      have hi0 : (0 : Int) ≤ (n : Int) := by omega
      have hi1 : (n : Int) < (l.length : Int) := by omega
      go_wp2
      go_region_held3 (fun w' => w'.cell? ⟨b, o + n * 2, none⟩ = some (.int .i64 l[n].seq) ∧ w'.cell? ⟨b, o + n * 2 + 1, none⟩ = some (.int .i64 l[n].off) ∧ w'.cell? ⟨b', o' + n * 2, none⟩ = some (.int .i64 l[n].seq) ∧ w'.cell? ⟨b', o' + n * 2 + 1, none⟩ = some (.int .i64 l[n].off) ∧ wr.heap.size ≤ w'.heap.size)
        (first | (go_split_ands; refine ⟨?_, ?_, ?_, ?_, ?_⟩ <;> first | assumption | exact (k1 _ _ hb1).trans (by assumption) | exact (k1 _ _ hb2).trans (by assumption) | exact s1 | (simp; done)) | go_keep)
        (first
          | (go_at_call 56; refine (eqMk_same _ _ _).mono ?_; rintro e w1 ⟨rfl, g1⟩; obtain ⟨k1, m1⟩ := bcell g1; have s1 := g1.size))
      all_goals
        go_wp2
        exact ⟨⟨n + 1, by go_num, by omega, via0 g1 hbl.drew⟩, by simp [intOf]; omega⟩
    · go_wp2
      go_ret
      exact ⟨rfl, hbl⟩

/-- The record of marks from z on. -/
def markMk (z : Int) : Mk := ⟨z, z + 1⟩
def marksMk (n : Nat) (z : Int) : List Mk := (List.range n).map fun (i : Nat) => markMk (z + (i : Int) * 2)
theorem marksMk_length (n : Nat) (z : Int) : (marksMk n z).length = n := by simp [marksMk]
theorem marksMk_succ (n : Nat) (z : Int) : marksMk (n + 1) z = marksMk n z ++ [markMk (z + (n : Int) * 2)] := by simp [marksMk, List.range_succ]
theorem marksMk_get (n : Nat) (z : Int) (i : Nat) (h : i < (marksMk n z).length) : (marksMk n z)[i] = markMk (z + (i : Int) * 2) := by simp [marksMk]
theorem marksMk_flat (n : Nat) (k z : Int) (hz : z = k + (n : Int) * 2) :
    flat (marksMk n k) ++ [.int .i64 (z)] ++ [.int .i64 (z + 1)] = flat (marksMk (n + 1) k) := by
  subst hz
  rw [marksMk_succ, flat_append, flat_one]
  simp [Cel.cs, markMk, Int.add_assoc]

set_option maxHeartbeats 1000000 in
theorem markMkS_any (b o cap m : Nat) (k : Int) (hk : 1 ≤ k) (hk' : k ≤ 100000000) (hm : m ≤ 2000000) (w : World) (hb : b < w.heap.size) (hth : w.there b o (m * 2)) :
    Calls Try.prog 49 #[.slice (some ⟨b, o, none⟩) m cap, .int .i64 k] w fun e w' => e = .returned (.int .i64 (k + (m : Int) * 2)) ∧ Only b w w' ∧ In w' b o (marksMk m k) ∧ w'.there b o (m * 2) := by
  have HT : Hid (w.there b o (m * 2)) := hth
  clear hth
  go_enter Try.func49, Try.ntmps49
  go_wp2
  go_loopw [1, 5] (fun kk i w' => ∃ (n : Nat) (z : Int), i = .int .i64 (n : Int) ∧ kk = .int .i64 z ∧ n ≤ m ∧ 1 ≤ z ∧ z ≤ 900000000 ∧ Only b w w' ∧ Hid (z = k + (n : Int) * 2) ∧ Hid (In w' b o (marksMk n k)) ∧ Hid (w'.there b o (m * 2))) (fun _ i _ => m - (intOf i).toNat)
  case atStart => exact ⟨0, k, rfl, rfl, by omega, hk, by omega, Only.refl _ _, by simp [Hid], fun j v hv => by simp [marksMk, flat] at hv, HT.out⟩
  case round =>
    obtain ⟨n, z, rfl, rfl, hn, hz1, hz2, ho, hz, hin, hth⟩ := hrel
    by_cases hlt : n < m
    · obtain ⟨⟨v0, d0⟩, f0⟩ := there_at (f := 0) hth.out hlt (by omega)
      obtain ⟨⟨v1, d1⟩, f1⟩ := there_at (f := 1) hth.out hlt (by omega)
      simp only [Nat.add_zero] at d0 f0
      have q1 : b < wr.heap.size := Nat.lt_of_lt_of_le hb ho.size
      go_wp2
      have hlen : (flat (marksMk n k)).length = n * 2 := by rw [flat_length, marksMk_length]; rfl
      have P0 := push (v := .int .i64 (z)) (q := o + n * 2) ⟨hin.out, hth.out, q1⟩ (by simp [hlen]; omega) (by simp [hlen])
      have P1 := push (v := .int .i64 (z + 1)) (q := o + n * 2 + 1) P0 (by simp [hlen]; omega) (by simp [hlen]; omega)
      rw [marksMk_flat n k z hz.out] at P1
      have hz' := hz.out
      refine ⟨⟨n + 1, z + 1 + 1, by go_num, rfl, by omega, by omega, by omega, ?_, by show z + 1 + 1 = _; omega, P1.1, P1.2.1⟩, by simp [intOf]; omega⟩
      exact (ho.set _ _).set _ _
    · obtain rfl : n = m := by omega
      go_wp2
      go_ret
      have e := hz.out
      subst e
      exact ⟨rfl, ho, hin.out, hth.out⟩

theorem markMkS_none (A : Option Addr) (cap : Nat) (k : Int) (w : World) :
    Calls Try.prog 49 #[.slice A 0 cap, .int .i64 k] w fun e w' => e = .returned (.int .i64 k) ∧ w' = w := by
  go_enter Try.func49, Try.ntmps49
  go_wp2
  go_loopw [1, 5] (fun kk i w' => kk = .int .i64 k ∧ i = .int .i64 0 ∧ w' = w) (fun _ _ _ => 0)
  case atStart => exact ⟨rfl, rfl, rfl⟩
  case round =>
    obtain ⟨rfl, rfl, rfl⟩ := hrel
    go_wp2
    go_ret
    exact ⟨rfl, rfl⟩

set_option maxHeartbeats 1000000 in
theorem heldMkS_any (A : Option Addr) (cap m : Nat) (k : Int) (hk : 1 ≤ k) (hk' : k ≤ 100000000) (hm : m ≤ 2000000) (w : World)
    (hA : m = 0 ∨ ∃ b o, A = some ⟨b, o, none⟩ ∧ b < w.heap.size ∧ In w b o (marksMk m k)) :
    Calls Try.prog 51 #[.slice A m cap, .int .i64 k] w fun e w' => e = .returned (.int .i64 (k + (m : Int) * 2)) ∧ w' = w := by
  have HA : Hid (m = 0 ∨ ∃ b o, A = some ⟨b, o, none⟩ ∧ b < w.heap.size ∧ In w b o (marksMk m k)) := hA
  clear hA
  go_enter Try.func51, Try.ntmps51
  go_wp2
  go_loopw [1, 5] (fun kk i w' => ∃ (n : Nat) (z : Int), i = .int .i64 (n : Int) ∧ kk = .int .i64 z ∧ n ≤ m ∧ 1 ≤ z ∧ z ≤ 900000000 ∧ Hid (z = k + (n : Int) * 2) ∧ w' = w) (fun _ i _ => m - (intOf i).toNat)
  case atStart => exact ⟨0, k, rfl, rfl, by omega, hk, by omega, by simp [Hid], rfl⟩
  case round =>
    obtain ⟨n, z, rfl, rfl, hn, hz1, hz2, hz, rfl⟩ := hrel
    by_cases hlt : n < m
    · obtain ⟨b, o, rfl, hbs, hin⟩ : ∃ b o, A = some ⟨b, o, none⟩ ∧ b < wr.heap.size ∧ In wr b o (marksMk m k) := by
        rcases HA.out with h | h
        · omega
        · exact h
      obtain ⟨c0, c1⟩ : wr.cell? ⟨b, o + n * 2, none⟩ = some (.int .i64 (z)) ∧ wr.cell? ⟨b, o + n * 2 + 1, none⟩ = some (.int .i64 (z + 1)) := by
        have h := hin.getMk n (by rw [marksMk_length]; exact hlt)
        rw [marksMk_get] at h
        rw [hz.out]
        exact h
      have hi0 : (0 : Int) ≤ (n : Int) := by omega
      have hi1 : (n : Int) < (m : Int) := by omega
      go_wp2
      have hz' := hz.out
      exact ⟨⟨n + 1, z + 1 + 1, by go_num, rfl, by omega, by omega, by omega, by show z + 1 + 1 = _; omega, by first | rfl | trivial⟩, by simp [intOf]; omega⟩
    · obtain rfl : n = m := by omega
      go_wp2
      go_ret
      have e := hz.out
      subst e
      exact ⟨rfl, rfl⟩

end Go.Proofs.Ytclgdghfcjkhfaa.Gen
