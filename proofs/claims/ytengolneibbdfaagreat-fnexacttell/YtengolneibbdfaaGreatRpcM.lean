/-
  Lists of messages marked and held, by the laws' own functions. No condition but that there are at most 1048576.
-/
import Derived.Test.YtengolneibbdfaaGreatAnsList
namespace Go.Proofs.YtengolneibbdfaaGreat.Gen
open Go.ChangeShapes Go.WideShapes Go.ChangeAt Go.RowKit Go.Joins Go.Deep Base
set_option linter.unusedVariables false
set_option linter.unusedSimpArgs false
def cP (x : RpC) : Nat := 9 + x.l.length * 9
def mP (x : RpC) (z : Int) : RpC := ⟨z, z + 1, z + 2, z + 3, z + 4, z + 5, z + 6, x.A, x.cap, marksEn x.l.length (z + 7), ((z + 7 + (x.l.length : Int) * 9) % 3 == 0), Items.markZ (z + 7 + (x.l.length : Int) * 9 + 1)⟩
theorem mark_ents (a : Option Addr) (cap : Nat) (l : List En) (S : Nat -> Prop) (k : Int) (hk : 1 <= k) (hk' : k <= 100000000) (hl : l.length <= 3000000) (w : World) (h : Sub w a l S) :
    Calls Tryz.prog 59 #[.slice a l.length cap, .int .i64 k] w fun e w' => e = .returned (.int .i64 (k + (l.length : Int) * 9)) /\ Offp S w w' /\ Sub w' a (marksEn l.length k) S := by
  rcases h with rfl | ⟨b, o, rfl, hS, hb, hi, ht⟩
  . refine (markNone_any a cap k w).mono ?_
    rintro e w' ⟨rfl, rfl⟩
    exact ⟨by simp, Offp.refl _ _, .inl rfl⟩
  . refine (markEntryS_any b o cap l.length k hk hk' hl w hb ht).mono ?_
    rintro e w' ⟨rfl, ko, hin, hth⟩
    exact ⟨rfl, (Offp.of_only ko).mono (fun x e => e ▸ hS), .inr ⟨b, o, rfl, hS, Nat.lt_of_lt_of_le hb ko.size, hin, by rw [marksEn_length]; exact hth⟩⟩
set_option maxRecDepth 100000 in
set_option maxHeartbeats 1000000 in
theorem markRpcS_any (b o cap : Nat) (l : List RpC) (fp : Nat -> Nat -> Prop) (k : Int) (hk : 1 <= k) (hk' : k <= 50000000) (hc : count cP l <= 50000000) (hl : l.length <= 1048576) (hs : ∀ x ∈ l, x.l.length <= 1048576) (w : World) (hO : OwnF rpcP w b o l fp) :
    Calls Tryz.prog 58 #[.slice (some ⟨b, o, none⟩) l.length cap, .int .i64 k] w fun e w' => e = .returned (.int .i64 (k + (count cP l : Int))) /\ Offp (fun x => x = b ∨ ∃ i, fp i x) w w' /\ OwnF rpcP w' b o (marked mP cP l k) fp := by
  have HO := hidP hO
  have Hs := hidP hs
  have Hc := hidP hc
  clear hO hs hc
  go_enter Tryz.func58, Tryz.ntmps58
  go_wp2
  go_loopw [1, 5] (fun kk i w' => ∃ (n : Nat) (z : Int), i = .int .i64 (n : Int) /\ kk = .int .i64 z /\ n <= l.length /\ 1 <= z /\ z <= 100000000 /\ Hid (z = k + (count cP (l.take n) : Int)) /\ Hid (Offp (fun x => x = b ∨ ∃ i, fp i x) w w') /\ Hid (OwnF rpcP w' b o (half mP cP l k n) fp)) (fun _ i _ => l.length - (intOf i).toNat)
  case atStart => exact ⟨0, k, rfl, rfl, by omega, hk, by omega, by simp [Hid, count], Offp.refl _ _, by rw [half_zero]; exact HO.out⟩
  case round =>
    obtain ⟨n, z, rfl, rfl, hn, hz1, hz2, hz, hoff, hown⟩ := hrel
    by_cases hlt : n < l.length
    . have hhl := half_length mP cP l k n
      have hge := half_get mP cP l k n hlt (by omega)
      have hit := Hs.out _ (List.getElem_mem hlt)
      obtain ⟨c0, c1, c2, c3, c4, c5, c6, c7, c8, c9⟩ := hown.out.lst.getRpC n (by omega)
      have hth := hown.out.th
      rw [hhl] at hth
      obtain ⟨_, f0⟩ := there_at (f := 0) hth hlt (by decide)
      obtain ⟨_, f1⟩ := there_at (f := 1) hth hlt (by decide)
      obtain ⟨_, f2⟩ := there_at (f := 2) hth hlt (by decide)
      obtain ⟨_, f3⟩ := there_at (f := 3) hth hlt (by decide)
      obtain ⟨_, f4⟩ := there_at (f := 4) hth hlt (by decide)
      obtain ⟨_, f5⟩ := there_at (f := 5) hth hlt (by decide)
      obtain ⟨_, f6⟩ := there_at (f := 6) hth hlt (by decide)
      simp only [Nat.add_zero, show Cel.k RpC = 10 from rfl] at f0 f1 f2 f3 f4 f5 f6
      rw [hge] at c0 c1 c2 c3 c4 c5 c6 c7 c8 c9
      have hsu := half_succ mP cP l k n hlt
      rw [← hz.out] at hsu
      have hcn : count cP (l.take n) + cP l[n] <= 50000000 := by rw [← count_snoc cP l n hlt]; exact Nat.le_trans (count_le cP l (n + 1)) Hc.out
      have Hsn := hidP (count_snoc cP l n hlt)
      generalize hx : l[n] = x at c0 c1 c2 c3 c4 c5 c6 c7 c8 c9 hit hsu hcn hge Hsn
      obtain ⟨k0, k1, k2, k3, k4, k5, k6, xA, xc, xi, ko, sn⟩ := x
      simp only at c0 c1 c2 c3 c4 c5 c6 c7 c8 c9 hit
      have O1 := hown.out.set1 rpcP_firm n (by omega) ⟨z, k1, k2, k3, k4, k5, k6, xA, xc, xi, ko, sn⟩ 0 (by decide) (.int .i64 z) (by rw [hge]; rfl) (fun W S h => by rw [hge] at h; exact h)
      have O2 := O1.set1 rpcP_firm n (by simp; omega) ⟨z, z + 1, k2, k3, k4, k5, k6, xA, xc, xi, ko, sn⟩ 1 (by decide) (.int .i64 (z + 1)) (by rw [List.getElem_set_self]; rfl) (fun W S h => by rw [List.getElem_set_self] at h; exact h)
      have O3 := O2.set1 rpcP_firm n (by simp; omega) ⟨z, z + 1, z + 1 + 1, k3, k4, k5, k6, xA, xc, xi, ko, sn⟩ 2 (by decide) (.int .i64 (z + 1 + 1)) (by rw [List.getElem_set_self]; rfl) (fun W S h => by rw [List.getElem_set_self] at h; exact h)
      have O4 := O3.set1 rpcP_firm n (by simp; omega) ⟨z, z + 1, z + 1 + 1, z + 1 + 1 + 1, k4, k5, k6, xA, xc, xi, ko, sn⟩ 3 (by decide) (.int .i64 (z + 1 + 1 + 1)) (by rw [List.getElem_set_self]; rfl) (fun W S h => by rw [List.getElem_set_self] at h; exact h)
      have O5 := O4.set1 rpcP_firm n (by simp; omega) ⟨z, z + 1, z + 1 + 1, z + 1 + 1 + 1, z + 1 + 1 + 1 + 1, k5, k6, xA, xc, xi, ko, sn⟩ 4 (by decide) (.int .i64 (z + 1 + 1 + 1 + 1)) (by rw [List.getElem_set_self]; rfl) (fun W S h => by rw [List.getElem_set_self] at h; exact h)
      have O6 := O5.set1 rpcP_firm n (by simp; omega) ⟨z, z + 1, z + 1 + 1, z + 1 + 1 + 1, z + 1 + 1 + 1 + 1, z + 1 + 1 + 1 + 1 + 1, k6, xA, xc, xi, ko, sn⟩ 5 (by decide) (.int .i64 (z + 1 + 1 + 1 + 1 + 1)) (by rw [List.getElem_set_self]; rfl) (fun W S h => by rw [List.getElem_set_self] at h; exact h)
      have O7 := O6.set1 rpcP_firm n (by simp; omega) ⟨z, z + 1, z + 1 + 1, z + 1 + 1 + 1, z + 1 + 1 + 1 + 1, z + 1 + 1 + 1 + 1 + 1, z + 1 + 1 + 1 + 1 + 1 + 1, xA, xc, xi, ko, sn⟩ 6 (by decide) (.int .i64 (z + 1 + 1 + 1 + 1 + 1 + 1)) (by rw [List.getElem_set_self]; rfl) (fun W S h => by rw [List.getElem_set_self] at h; exact h)
      simp only [Nat.add_zero, show Cel.k RpC = 10 from rfl, List.set_set] at O1 O2 O3 O4 O5 O6 O7
      have Hhl := hidP hhl
      have Hsu := hidP hsu
      have Hcn := hidP hcn
      have HO4 := hidP O7
      have hsub := O7.sub n (by simp; omega)
      rw [List.getElem_set_self] at hsub
      have Hsub := hidP hsub
      have hz' := hz.out
      have hzc : z + 9 <= 100000000 := by
        have h3 := Hcn.out; simp only [cP] at h3; omega
      have hlim : xi.length * 9 + 9 <= 50000000 := by have := Hcn.out; simp only [cP] at this; omega
      clear hx hhl hsu hcn O1 O2 O3 O4 O5 O6 O7 hsub hge hth hz'
      go_wp2_with fail
      refine (mark_ents xA xc xi (fp n) _ (by omega) (by omega) (by omega) _ Hsub.out).mono ?_
      rintro e w1 ⟨rfl, ko1, hsb⟩
      have O5 := HO4.out.turn rpcP_firm n (by rw [List.length_set]; have := Hhl.out; omega) ⟨z, z + 1, z + 1 + 1, z + 1 + 1 + 1, z + 1 + 1 + 1 + 1, z + 1 + 1 + 1 + 1 + 1, z + 1 + 1 + 1 + 1 + 1 + 1, xA, xc, marksEn xi.length (z + 1 + 1 + 1 + 1 + 1 + 1 + 1), ko, sn⟩ (by rw [List.getElem_set_self]; show [Value.int .i64 z, .int .i64 (z + 1), .int .i64 (z + 1 + 1), .int .i64 (z + 1 + 1 + 1), .int .i64 (z + 1 + 1 + 1 + 1), .int .i64 (z + 1 + 1 + 1 + 1 + 1), .int .i64 (z + 1 + 1 + 1 + 1 + 1 + 1), .slice xA (marksEn xi.length (z + 1 + 1 + 1 + 1 + 1 + 1 + 1)).length xc, .bool ko, .string sn] = _; rw [marksEn_length]; rfl) ko1 hsb
      rw [List.set_set] at O5
      have HO5 := hidP O5
      have hoff5 := hidP (((((((((hoff.out).set (.inl rfl) _ _).set (.inl rfl) _ _).set (.inl rfl) _ _).set (.inl rfl) _ _).set (.inl rfl) _ _).set (.inl rfl) _ _).set (.inl rfl) _ _).trans (ko1.mono (fun x hx => .inr ⟨n, hx⟩)))
      obtain ⟨Z, hZ⟩ : ∃ Z, z + 1 + 1 + 1 + 1 + 1 + 1 + 1 + (xi.length : Int) * 9 = Z := ⟨_, rfl⟩
      have HZ := hidP hZ
      rw [hZ]
      have hZ1 : 1 <= Z := by omega
      have hZ2 : Z <= 150000000 := by have h4 := Hcn.out; simp only [cP] at h4; have := hz.out; omega
      clear ko1 hsb O5 hZ c0 c1 c2 c3 c4 c5 c6 c7 c8 c9 f0 f1 f2 f3 f4 f5 f6
      have hlen5 : n < ((half mP cP l k n).set n ⟨z, z + 1, z + 1 + 1, z + 1 + 1 + 1, z + 1 + 1 + 1 + 1, z + 1 + 1 + 1 + 1 + 1, z + 1 + 1 + 1 + 1 + 1 + 1, xA, xc, marksEn xi.length (z + 1 + 1 + 1 + 1 + 1 + 1 + 1), ko, sn⟩).length := by rw [List.length_set]; have := Hhl.out; omega
      have q5 := HO5.out.lt
      have e8 : w1.cell? ⟨b, o + n * 10 + 8, none⟩ = some (.bool ko) := HO5.out.lst.cell n hlen5 (f := 8) (v := .bool ko) (by rw [List.getElem_set_self]; rfl)
      have f8 := (there_at (f := 8) HO5.out.th hlen5 (by decide)).2
      simp only [show Cel.k RpC = 10 from rfl] at f8
      have O6 := HO5.out.set1 rpcP_firm n hlen5 ⟨z, z + 1, z + 1 + 1, z + 1 + 1 + 1, z + 1 + 1 + 1 + 1, z + 1 + 1 + 1 + 1 + 1, z + 1 + 1 + 1 + 1 + 1 + 1, xA, xc, marksEn xi.length (z + 1 + 1 + 1 + 1 + 1 + 1 + 1), (Z % 3 == 0), sn⟩ 8 (by decide) (.bool (Z % 3 == 0)) (by rw [List.getElem_set_self]; rfl) (fun W S h => by rw [List.getElem_set_self] at h; exact h)
      simp only [show Cel.k RpC = 10 from rfl, List.set_set] at O6
      have HO6 := hidP O6
      have hoff6 := hidP (hoff5.out.set (b := b) (.inl rfl) (o + n * 10 + 8) (.bool (Z % 3 == 0)))
      have hlen6 : n < ((half mP cP l k n).set n ⟨z, z + 1, z + 1 + 1, z + 1 + 1 + 1, z + 1 + 1 + 1 + 1, z + 1 + 1 + 1 + 1 + 1, z + 1 + 1 + 1 + 1 + 1 + 1, xA, xc, marksEn xi.length (z + 1 + 1 + 1 + 1 + 1 + 1 + 1), (Z % 3 == 0), sn⟩).length := by rw [List.length_set]; have := Hhl.out; omega
      clear O6 HO5 hoff5 hlen5
      go_wp2_with fail
      refine (Items.markText_at (Z + 1) (by omega) (by omega) _).mono ?_
      rintro e w2 ⟨rfl, g2⟩
      have O7 := HO6.out.below rpcP_firm g2
      have e9 : w2.cell? ⟨b, o + n * 10 + 9, none⟩ = some (.string sn) := O7.lst.cell n hlen6 (f := 9) (v := .string sn) (by rw [List.getElem_set_self]; rfl)
      have f9 := (there_at (f := 9) O7.th hlen6 (by decide)).2
      simp only [show Cel.k RpC = 10 from rfl] at f9
      have qb := O7.lt
      have O8 := O7.set1 rpcP_firm n hlen6 ⟨z, z + 1, z + 1 + 1, z + 1 + 1 + 1, z + 1 + 1 + 1 + 1, z + 1 + 1 + 1 + 1 + 1, z + 1 + 1 + 1 + 1 + 1 + 1, xA, xc, marksEn xi.length (z + 1 + 1 + 1 + 1 + 1 + 1 + 1), (Z % 3 == 0), Items.markZ (Z + 1)⟩ 9 (by decide) (.string (Items.markZ (Z + 1))) (by rw [List.getElem_set_self]; rfl) (fun W S h => by rw [List.getElem_set_self] at h; exact h)
      simp only [show Cel.k RpC = 10 from rfl, List.set_set] at O8
      have hmN : (⟨z, z + 1, z + 1 + 1, z + 1 + 1 + 1, z + 1 + 1 + 1 + 1, z + 1 + 1 + 1 + 1 + 1, z + 1 + 1 + 1 + 1 + 1 + 1, xA, xc, marksEn xi.length (z + 1 + 1 + 1 + 1 + 1 + 1 + 1), (Z % 3 == 0), Items.markZ (Z + 1)⟩ : RpC) = mP ⟨k0, k1, k2, k3, k4, k5, k6, xA, xc, xi, ko, sn⟩ z := by
        have a2 : z + 1 + 1 = z + 2 := by omega
        have a3 : z + 2 + 1 = z + 3 := by omega
        have a4 : z + 3 + 1 = z + 4 := by omega
        have a5 : z + 4 + 1 = z + 5 := by omega
        have a6 : z + 5 + 1 = z + 6 := by omega
        have a7 : z + 6 + 1 = z + 7 := by omega
        simp only [mP, a2, a3, a4, a5, a6, a7]
        rw [← HZ.out]
        simp only [a2, a3, a4, a5, a6, a7]
      rw [hmN, ← Hsu.out] at O8
      have HO8 := hidP O8
      have hoff7 := hidP ((hoff6.out.below g2).set (b := b) (.inl rfl) (o + n * 10 + 9) (.string (Items.markZ (Z + 1))))
      clear O7 O8 HO6 hoff6 g2 HO4 Hsub hmN hlen6 e8 f8 q5
      go_wp2
      have hz' := hz.out
      refine ⟨⟨n + 1, Z + 1 + 1, by go_num, rfl, by omega, by omega, ?_, ?_, hoff7, HO8⟩, by simp [intOf]; omega⟩
      . have h4 := Hcn.out; simp only [cP] at h4; have := HZ.out; have := hz.out; omega
      . show _ = _; rw [Hsn.out, ← HZ.out, hz']; simp only [cP]; omega
    . obtain rfl : n = l.length := by omega
      go_wp2
      go_ret
      have e := hz.out
      rw [count_all cP l _ (Nat.le_refl _)] at e
      have hh := hown.out
      rw [half_all mP cP l k _ (Nat.le_refl _)] at hh
      subst e
      exact ⟨rfl, hoff.out, hh⟩
end Go.Proofs.YtengolneibbdfaaGreat.Gen
