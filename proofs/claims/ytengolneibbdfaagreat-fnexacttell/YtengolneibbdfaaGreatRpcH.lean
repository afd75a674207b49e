/-
  Lists of messages held, by the laws' own function. No condition but that there are at most 1048576.
-/
import Derived.Test.YtengolneibbdfaaGreatRpcM
namespace Go.Proofs.YtengolneibbdfaaGreat.Gen
open Go.ChangeShapes Go.WideShapes Go.ChangeAt Go.RowKit Go.Joins Go.Deep Base
set_option linter.unusedVariables false
set_option linter.unusedSimpArgs false
set_option maxRecDepth 100000 in
set_option maxHeartbeats 1000000 in
theorem heldRpcS_any (A : Option Addr) (cap : Nat) (l : List RpC) (k : Int) (hk : 1 <= k) (hk' : k <= 50000000) (hc : count cP l <= 50000000) (hl : l.length <= 1048576) (hs : ∀ x ∈ l, x.l.length <= 1048576) (w : World) (hA : At w A (marked mP cP l k)) (hE : EachP w (marked mP cP l k)) :
    Calls Tryz.prog 65 #[.slice A l.length cap, .int .i64 k] w fun e w' => e = .returned (.int .i64 (k + (count cP l : Int))) /\ Below w.heap.size w w' := by
  have HA := hidP hA
  have HE := hidP hE
  have Hs := hidP hs
  have Hc := hidP hc
  clear hA hE hs hc
  have HML := hidP (marked_length mP cP l k)
  go_enter Tryz.func65, Tryz.ntmps65
  go_wp2
  go_loopw [1, 5] (fun kk i w' => ∃ (n : Nat) (z : Int), i = .int .i64 (n : Int) /\ kk = .int .i64 z /\ n <= l.length /\ 1 <= z /\ z <= 100000000 /\ Hid (z = k + (count cP (l.take n) : Int)) /\ Below w.heap.size w w') (fun _ i _ => l.length - (intOf i).toNat)
  case atStart => exact ⟨0, k, rfl, rfl, by omega, hk, by omega, by simp [Hid, count], Below.refl _ _⟩
  case round =>
    obtain ⟨n, z, rfl, rfl, hn, hz1, hz2, hz, hbl⟩ := hrel
    by_cases hlt : n < l.length
    . have hml := HML.out
      obtain ⟨b, o, rfl, hbs, hin⟩ : ∃ b o, A = some ⟨b, o, none⟩ /\ b < w.heap.size /\ In w b o (marked mP cP l k) := by
        rcases HA.out with h | h
        . rw [h] at hml; simp at hml; omega
        . exact h
      have hmn : n < (marked mP cP l k).length := by omega
      have hge := marked_get mP cP l n hlt k hmn
      rw [← hz.out] at hge
      obtain ⟨c0, c1, c2, c3, c4, c5, c6, c7, c8, c9⟩ := (hin.below hbs hbl).getRpC n hmn
      have hat := (HE.out _ (List.getElem_mem hmn)).below hbl
      rw [hge] at c0 c1 c2 c3 c4 c5 c6 c7 c8 c9 hat
      have hit := Hs.out _ (List.getElem_mem hlt)
      have hcn : count cP (l.take n) + cP l[n] <= 50000000 := by rw [← count_snoc cP l n hlt]; exact Nat.le_trans (count_le cP l (n + 1)) Hc.out
      have Hsn := hidP (count_snoc cP l n hlt)
      generalize hx : l[n] = x at c0 c1 c2 c3 c4 c5 c6 c7 c8 c9 hit hcn hat Hsn
      obtain ⟨k0, k1, k2, k3, k4, k5, k6, xA, xc, xi, ko, sn⟩ := x
      simp only [mP, marksEn_length] at c0 c1 c2 c3 c4 c5 c6 c7 c8 c9 hit hat
      have a2 : z + 2 = z + 1 + 1 := by omega
      have a3 : z + 3 = z + 1 + 1 + 1 := by omega
      have a4 : z + 4 = z + 1 + 1 + 1 + 1 := by omega
      have a5 : z + 5 = z + 1 + 1 + 1 + 1 + 1 := by omega
      have a6 : z + 6 = z + 1 + 1 + 1 + 1 + 1 + 1 := by omega
      have a7 : z + 7 = z + 1 + 1 + 1 + 1 + 1 + 1 + 1 := by omega
      rw [a2] at c2
      rw [a3] at c3
      rw [a4] at c4
      rw [a5] at c5
      rw [a6] at c6
      rw [a7] at c8 c9 hat
      have HAt : Hid (xi.length = 0 ∨ ∃ b o, xA = some ⟨b, o, none⟩ /\ b < wr.heap.size /\ In wr b o (marksEn xi.length (z + 1 + 1 + 1 + 1 + 1 + 1 + 1))) := by
        rcases hat with h | h
        . exact .inl (by have := congrArg List.length h; simpa [marksEn_length] using this)
        . exact .inr h
      have Hcn := hidP hcn
      have hzc : z + 9 <= 100000000 := by
        have h3 := hz.out; have h4 := Hcn.out; simp only [cP] at h4; omega
      have hlim : xi.length * 9 + 9 <= 50000000 := by have := Hcn.out; simp only [cP] at this; omega
      clear hml hge hx hcn hat a2 a3 a4 a5 a6 a7
      have hb1 : b < wr.heap.size := Nat.lt_of_lt_of_le hbs hbl.size
      obtain ⟨Z, hZ⟩ : ∃ Z, z + 1 + 1 + 1 + 1 + 1 + 1 + 1 + (xi.length : Int) * 9 = Z := ⟨_, rfl⟩
      have hneg : ¬ Z < 0 := by omega
      have hZ1 : 1 <= Z := by omega
      have hZ2 : Z <= 150000000 := by have h4 := Hcn.out; simp only [cP] at h4; have := hz.out; omega
      have HZ := hidP hZ
      have HE9 := hidP (heldEntryS_any xA xc xi.length (z + 1 + 1 + 1 + 1 + 1 + 1 + 1) (by omega) (by omega) (by omega) wr HAt.out)
      rw [hZ] at HE9 c8 c9
      clear hZ
      go_wp2_with fail
      refine HE9.out.mono ?_
      rintro e w1 ⟨rfl, g1⟩
      have e8 : w1.cell? ⟨b, o + n * 10 + 8, none⟩ = some (.bool (Z % 3 == 0)) := ((bcell g1).1 _ _ hb1).trans c8
      have e9 : w1.cell? ⟨b, o + n * 10 + 9, none⟩ = some (.string (Items.markZ (Z + 1))) := ((bcell g1).1 _ _ hb1).trans c9
      have hb2 : b < w1.heap.size := Nat.lt_of_lt_of_le hb1 g1.size
      clear c0 c1 c2 c3 c4 c5 c6 c7 c8 c9 HE9
      go_wp2_with fail
      go_region_held3 (fun w' => w'.cell? ⟨b, o + n * 10 + 9, none⟩ = some (.string (Items.markZ (Z + 1))))
        (first | (exact (k1' _ _ hb2).trans e9) | assumption | go_keep)
        (first | (go_at_call 120; refine (Items.markText_at (Z + 1) (by omega) (by omega) _).mono ?_; rintro e w2 ⟨rfl, g2⟩; obtain ⟨k1', m1'⟩ := bcell g2))
      all_goals
        go_wp2
        have hz' := hz.out
        refine ⟨⟨n + 1, Z + 1 + 1, by go_num, rfl, by omega, by omega, ?_, ?_, via0 g2 (Below.drew (via0 g1 hbl))⟩, by simp [intOf]; omega⟩
        . have h4 := Hcn.out; simp only [cP] at h4; have := HZ.out; have := hz.out; omega
        . show _ = _; rw [Hsn.out, ← HZ.out, hz']; simp only [cP]; omega
    . obtain rfl : n = l.length := by omega
      go_wp2
      go_ret
      have e := hz.out
      rw [count_all cP l _ (Nat.le_refl _)] at e
      subst e
      exact ⟨rfl, hbl⟩
end Go.Proofs.YtengolneibbdfaaGreat.Gen
