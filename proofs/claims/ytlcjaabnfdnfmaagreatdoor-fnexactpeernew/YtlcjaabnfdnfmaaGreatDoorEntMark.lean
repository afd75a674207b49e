/-
  Lists of entries: what the laws' mark and held functions do. No condition but that there are at most 1048576.
-/
import Derived.Test.YtlcjaabnfdnfmaaGreatDoorDk6
set_option linter.unusedVariables false
set_option linter.unusedSimpArgs false
set_option maxRecDepth 100000
set_option maxHeartbeats 8000000
namespace Go.Proofs.YtlcjaabnfdnfmaaGreatDoor.Gen
open ChangeShapes WideShapes ChangeAt RowKit Joins Deep Base
def markEn (z : Int) : En := ⟨z, z + 1, z + 2, z + 3, z + 4, z + 5, z + 6, Items.markZ (z + 7), Items.markZ (z + 8)⟩
def Qal (n : Nat) (z : Int) : List En := (List.range n).map fun (i : Nat) => markEn (z + (i : Int) * 9)
theorem Qax (n : Nat) (z : Int) : (Qal n z).length = n := by simp [Qal]
theorem Qil (n : Nat) (z : Int) : Qal (n + 1) z = Qal n z ++ [markEn (z + (n : Int) * 9)] := by simp [Qal, List.range_succ]
theorem Qj4 (n : Nat) (z : Int) (i : Nat) (h : i < (Qal n z).length) : (Qal n z)[i] = markEn (z + (i : Int) * 9) := by simp [Qal]
theorem Qim (n : Nat) (k z : Int) (hz : z = k + (n : Int) * 9) :
 flat (Qal n k) ++ [.int .i64 z] ++ [.int .i64 (z + 1)] ++ [.int .i64 (z + 1 + 1)] ++ [.int .i64 (z + 1 + 1 + 1)] ++ [.int .i64 (z + 1 + 1 + 1 + 1)] ++ [.int .i64 (z + 1 + 1 + 1 + 1 + 1)] ++ [.int .i64 (z + 1 + 1 + 1 + 1 + 1 + 1)] ++ [.string (Items.markZ (z + 1 + 1 + 1 + 1 + 1 + 1 + 1))] ++ [.string (Items.markZ (z + 1 + 1 + 1 + 1 + 1 + 1 + 1 + 1))] = flat (Qal (n + 1) k) := by
 subst hz
 have e2 : ∀ z : Int, z + 1 + 1 = z + 2 := fun z => by omega
 have e3 : ∀ z : Int, z + 1 + 1 + 1 = z + 3 := fun z => by omega
 have e4 : ∀ z : Int, z + 1 + 1 + 1 + 1 = z + 4 := fun z => by omega
 have e5 : ∀ z : Int, z + 1 + 1 + 1 + 1 + 1 = z + 5 := fun z => by omega
 have e6 : ∀ z : Int, z + 1 + 1 + 1 + 1 + 1 + 1 = z + 6 := fun z => by omega
 have e7 : ∀ z : Int, z + 1 + 1 + 1 + 1 + 1 + 1 + 1 = z + 7 := fun z => by omega
 have e8 : ∀ z : Int, z + 1 + 1 + 1 + 1 + 1 + 1 + 1 + 1 = z + 8 := fun z => by omega
 rw [Qil, Qa1, Qbp, e8, e7, e6, e5, e4, e3, e2]
 simp [Cel.cs, markEn]
theorem Qdk (b o cap m : Nat) (k : Int) (hk : 1 <= k) (hk' : k <= 100000000) (hm : m <= 3000000) (w : World) (hb : b < w.heap.size) (hth : w.there b o (m * 9)) :
 Calls Tryz.prog 69 #[.slice (some ⟨b, o, none⟩) m cap, .int .i64 k] w fun e w' => e = .returned (.int .i64 (k + (m : Int) * 9)) /\ Only b w w' /\ In w' b o (Qal m k) /\ w'.there b o (m * 9) := by
 have HT := hidP hth
 clear hth
 go_enter Tryz.func69, Tryz.ntmps69
 go_wp2
 go_loopw [1, 5] (fun kk i w' => ∃ (n : Nat) (z : Int), i = .int .i64 (n : Int) /\ kk = .int .i64 z /\ n <= m /\ 1 <= z /\ z <= 900000000 /\ Only b w w' /\ Hid (z = k + (n : Int) * 9) /\ Hid (In w' b o (Qal n k)) /\ Hid (w'.there b o (m * 9))) (fun _ i _ => m - (intOf i).toNat)
 case atStart => exact ⟨0, k, rfl, rfl, by omega, hk, by omega, Only.refl _ _, by simp [Hid], In.nil _ _ _, HT.out⟩
 case round =>
  obtain ⟨n, z, rfl, rfl, hn, hz1, hz2, ho, hz, hin, hth⟩ := hrel
  by_cases hlt : n < m
  . obtain ⟨⟨v0, d0⟩, f0⟩ := Qaf (f := 0) hth.out hlt (by omega)
    rw [Nat.add_zero] at d0 f0
    obtain ⟨⟨v1, d1⟩, f1⟩ := Qaf (f := 1) hth.out hlt (by omega)
    obtain ⟨⟨v2, d2⟩, f2⟩ := Qaf (f := 2) hth.out hlt (by omega)
    obtain ⟨⟨v3, d3⟩, f3⟩ := Qaf (f := 3) hth.out hlt (by omega)
    obtain ⟨⟨v4, d4⟩, f4⟩ := Qaf (f := 4) hth.out hlt (by omega)
    obtain ⟨⟨v5, d5⟩, f5⟩ := Qaf (f := 5) hth.out hlt (by omega)
    obtain ⟨⟨v6, d6⟩, f6⟩ := Qaf (f := 6) hth.out hlt (by omega)
    obtain ⟨⟨v7, d7⟩, f7⟩ := Qaf (f := 7) hth.out hlt (by omega)
    obtain ⟨⟨v8, d8⟩, f8⟩ := Qaf (f := 8) hth.out hlt (by omega)
    have q1 : b < wr.heap.size := Nat.lt_of_lt_of_le hb ho.size
    go_wp2_with fail
    refine (Items.markText_at _ (by omega) (by omega) _).mono ?_
    rintro e w1 ⟨rfl, g1⟩
    obtain ⟨k1, m1⟩ := Qaj g1
    have q2 : b < w1.heap.size := (by have t1 := g1.size; simp at t1; exact Nat.lt_of_lt_of_le q1 t1)
    go_wp2_with fail
    refine (Items.markText_at _ (by omega) (by omega) _).mono ?_
    rintro e w2 ⟨rfl, g2⟩
    obtain ⟨k2, m2⟩ := Qaj g2
    have q3 : b < w2.heap.size := (by have t1 := g2.size; simp at t1; exact Nat.lt_of_lt_of_le q2 t1)
    go_wp2
    have hlen : (flat (Qal n k)).length = n * 9 := by rw [Qap, Qax]; rfl
    have P0 := push (v := .int .i64 z) (q := o + n * 9) ⟨hin.out, hth.out, Nat.lt_of_lt_of_le hb ho.size⟩ (by rw [hlen]; omega) (by rw [hlen])
    have P1 := push (v := .int .i64 (z + 1)) (q := o + n * 9 + 1) P0 (by simp [hlen]; omega) (by simp [hlen]; omega)
    have P2 := push (v := .int .i64 (z + 1 + 1)) (q := o + n * 9 + 1 + 1) P1 (by simp [hlen]; omega) (by simp [hlen]; omega)
    have P3 := push (v := .int .i64 (z + 1 + 1 + 1)) (q := o + n * 9 + 1 + 2) P2 (by simp [hlen]; omega) (by simp [hlen]; omega)
    have P4 := push (v := .int .i64 (z + 1 + 1 + 1 + 1)) (q := o + n * 9 + 1 + 3) P3 (by simp [hlen]; omega) (by simp [hlen]; omega)
    have P5 := push (v := .int .i64 (z + 1 + 1 + 1 + 1 + 1)) (q := o + n * 9 + 1 + 4) P4 (by simp [hlen]; omega) (by simp [hlen]; omega)
    have P6 := push (v := .int .i64 (z + 1 + 1 + 1 + 1 + 1 + 1)) (q := o + n * 9 + 1 + 5) P5 (by simp [hlen]; omega) (by simp [hlen]; omega)
    have P7 := push (v := .string (Items.markZ (z + 1 + 1 + 1 + 1 + 1 + 1 + 1))) (q := o + n * 9 + 1 + 6) (Qeq P6 g1) (by simp [hlen]; omega) (by simp [hlen]; omega)
    have P8 := push (v := .string (Items.markZ (z + 1 + 1 + 1 + 1 + 1 + 1 + 1 + 1))) (q := o + n * 9 + 1 + 7) (Qeq P7 g2) (by simp [hlen]; omega) (by simp [hlen]; omega)
    rw [Qim n k z hz.out] at P8
    have hz' := hz.out
    refine ⟨⟨n + 1, z + 1 + 1 + 1 + 1 + 1 + 1 + 1 + 1 + 1, by go_num, rfl, by omega, by omega, by omega, ?_, by show z + 1 + 1 + 1 + 1 + 1 + 1 + 1 + 1 + 1 = _; omega, P8.1, P8.2.1⟩, by simp [intOf]; omega⟩
    exact ((((((((((ho.set _ _).set _ _).set _ _).set _ _).set _ _).set _ _).set _ _).below g1).set _ _).below g2).set _ _
  . obtain rfl : n = m := by omega
    go_wp2
    go_ret
    have e := hz.out
    subst e
    exact ⟨rfl, ho, hin.out, hth.out⟩
theorem Qdo (A : Option Addr) (cap m : Nat) (k : Int) (hk : 1 <= k) (hk' : k <= 100000000) (hm : m <= 3000000) (w : World)
 (hA : m = 0 ∨ ∃ b o, A = some ⟨b, o, none⟩ /\ b < w.heap.size /\ In w b o (Qal m k)) :
 Calls Tryz.prog 77 #[.slice A m cap, .int .i64 k] w fun e w' => e = .returned (.int .i64 (k + (m : Int) * 9)) /\ Below w.heap.size w w' := by
 have HA := hidP hA
 clear hA
 go_enter Tryz.func77, Tryz.ntmps77
 go_wp2
 go_loopw [1, 5] (fun kk i w' => ∃ (n : Nat) (z : Int), i = .int .i64 (n : Int) /\ kk = .int .i64 z /\ n <= m /\ 1 <= z /\ z <= 900000000 /\ Hid (z = k + (n : Int) * 9) /\ Below w.heap.size w w') (fun _ i _ => m - (intOf i).toNat)
 case atStart => exact ⟨0, k, rfl, rfl, by omega, hk, by omega, by simp [Hid], Below.refl _ _⟩
 case round =>
  obtain ⟨n, z, rfl, rfl, hn, hz1, hz2, hz, hbl⟩ := hrel
  by_cases hlt : n < m
  . obtain ⟨b, o, rfl, hbs, hin⟩ : ∃ b o, A = some ⟨b, o, none⟩ /\ b < w.heap.size /\ In w b o (Qal m k) := by
     rcases HA.out with h | h
     . omega
     . exact h
    have hb1 : b < wr.heap.size := Nat.lt_of_lt_of_le hbs hbl.size
    obtain ⟨c0, c1, c2, c3, c4, c5, c6, c7, c8⟩ : wr.cell? ⟨b, o + n * 9, none⟩ = some (.int .i64 z) /\ wr.cell? ⟨b, o + n * 9 + 1, none⟩ = some (.int .i64 (z + 1)) /\ wr.cell? ⟨b, o + n * 9 + 2, none⟩ = some (.int .i64 (z + 1 + 1)) /\ wr.cell? ⟨b, o + n * 9 + 3, none⟩ = some (.int .i64 (z + 1 + 1 + 1)) /\ wr.cell? ⟨b, o + n * 9 + 4, none⟩ = some (.int .i64 (z + 1 + 1 + 1 + 1)) /\ wr.cell? ⟨b, o + n * 9 + 5, none⟩ = some (.int .i64 (z + 1 + 1 + 1 + 1 + 1)) /\ wr.cell? ⟨b, o + n * 9 + 6, none⟩ = some (.int .i64 (z + 1 + 1 + 1 + 1 + 1 + 1)) /\ wr.cell? ⟨b, o + n * 9 + 7, none⟩ = some (.string (Items.markZ (z + 1 + 1 + 1 + 1 + 1 + 1 + 1))) /\ wr.cell? ⟨b, o + n * 9 + 8, none⟩ = some (.string (Items.markZ (z + 1 + 1 + 1 + 1 + 1 + 1 + 1 + 1))) := by
     have h := (hin.below hbs hbl).getEn n (by rw [Qax]; exact hlt)
     rw [Qj4] at h
     have e2 : z + 1 + 1 = z + 2 := by omega
     have e3 : z + 1 + 1 + 1 = z + 3 := by omega
     have e4 : z + 1 + 1 + 1 + 1 = z + 4 := by omega
     have e5 : z + 1 + 1 + 1 + 1 + 1 = z + 5 := by omega
     have e6 : z + 1 + 1 + 1 + 1 + 1 + 1 = z + 6 := by omega
     have e7 : z + 1 + 1 + 1 + 1 + 1 + 1 + 1 = z + 7 := by omega
     have e8 : z + 1 + 1 + 1 + 1 + 1 + 1 + 1 + 1 = z + 8 := by omega
     rw [e8, e7, e6, e5, e4, e3, e2, hz.out]
     exact h
    have hi0 : (0 : Int) <= (n : Int) := by omega
    have hi1 : (n : Int) < (m : Int) := by omega
    go_wp2
    go_region_held3 (fun w' => w'.cell? ⟨b, o + n * 9 + 7, none⟩ = some (.string (Items.markZ (z + 1 + 1 + 1 + 1 + 1 + 1 + 1))) /\ w'.cell? ⟨b, o + n * 9 + 8, none⟩ = some (.string (Items.markZ (z + 1 + 1 + 1 + 1 + 1 + 1 + 1 + 1))) /\ b < w'.heap.size)
     (first | (go_split_ands; refine ⟨?_, ?_, ?_⟩<;>first | assumption | exact (k1 _ _ (by assumption)).trans (by assumption) | exact Nat.lt_of_lt_of_le (by assumption) s1 | (simp; done)) | go_keep)
     (first
      | (go_at_call 70; refine (Items.markText_at _ ?_ ?_ _).mono ?_; omega; omega; rintro e w1 ⟨rfl, g1⟩; obtain ⟨k1, m1⟩ := Qaj g1; have s1 := g1.size))
    go_split_ands
    go_wp2
    go_region_held3 (fun w' => w'.cell? ⟨b, o + n * 9 + 8, none⟩ = some (.string (Items.markZ (z + 1 + 1 + 1 + 1 + 1 + 1 + 1 + 1))) /\ b < w'.heap.size)
     (first | (go_split_ands; refine ⟨?_, ?_⟩<;>first | assumption | exact (k2 _ _ (by assumption)).trans (by assumption) | exact Nat.lt_of_lt_of_le (by assumption) s2 | (simp; done)) | go_keep)
     (first
      | (go_at_call 70; refine (Items.markText_at _ ?_ ?_ _).mono ?_; omega; omega; rintro e w2 ⟨rfl, g2⟩; obtain ⟨k2, m2⟩ := Qaj g2; have s2 := g2.size))
    go_split_ands
    go_wp2
    have hz' := hz.out
    exact ⟨⟨n + 1, z + 1 + 1 + 1 + 1 + 1 + 1 + 1 + 1 + 1, by go_num, rfl, by omega, by omega, by omega, by show z + 1 + 1 + 1 + 1 + 1 + 1 + 1 + 1 + 1 = _; omega, via0 g2 (via0 g1 hbl.drew).drew⟩, by simp [intOf]; omega⟩
  . obtain rfl : n = m := by omega
    go_wp2
    go_ret
    have e := hz.out
    subst e
    exact ⟨rfl, hbl⟩
end Go.Proofs.YtlcjaabnfdnfmaaGreatDoor.Gen
