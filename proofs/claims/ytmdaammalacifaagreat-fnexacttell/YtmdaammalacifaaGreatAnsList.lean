/-
  Lists of answers: how they lie, what the laws' to, sz, eq, mark and held functions of them do; the argument opened. No condition but that there are at most 1048576, and the length that every text has.
-/
import Derived.Test.YtmdaammalacifaaGreatRecs
import Derived.Test.YtmdaammalacifaaGreatMakList
import Derived.Test.YtmdaammalacifaaGreatItems
set_option linter.unusedVariables false
set_option linter.unusedSimpArgs false
set_option maxRecDepth 100000
set_option maxHeartbeats 8000000
namespace Go.Proofs.YtmdaammalacifaaGreat.Gen
open ChangeShapes WideShapes ChangeAt RowKit Joins Deep Base
structure An where
  code : Int
  n : Int
  key : ByteArray
  text : ByteArray
instance : Inhabited An := ⟨⟨0, 0, ⟨#[]⟩, ⟨#[]⟩⟩⟩
instance : Cel An where
  k := 4
  cs x := [.int .i64 x.code, .int .i64 x.n, .string x.key, .string x.text]
  len _ := rfl
  one x u hu := by simp at hu; rcases hu with rfl | rfl | rfl | rfl<;>rfl
def An.right (x : An) : Prop := I64 x.code /\ I64 x.n /\ x.key.size <= 9223372036854775807 /\ x.text.size <= 9223372036854775807
theorem In.getAn {w : World} {b o : Nat} {l : List An} (h : In w b o l) (i : Nat) (hi : i < l.length) :
 w.cell? ⟨b, o + i * 4, none⟩ = some (.int .i64 l[i].code) /\ w.cell? ⟨b, o + i * 4 + 1, none⟩ = some (.int .i64 l[i].n) /\ w.cell? ⟨b, o + i * 4 + 2, none⟩ = some (.string l[i].key) /\ w.cell? ⟨b, o + i * 4 + 3, none⟩ = some (.string l[i].text) :=
 ⟨h.cell i hi (f := 0) rfl, h.cell i hi (f := 1) rfl, h.cell i hi (f := 2) rfl, h.cell i hi (f := 3) rfl⟩
theorem infoAn : (Tryz.prog.info? 178).map (fun i => (i.zero, i.size, i.bytes)) = some (some (.agg #[.int .i64 0, .int .i64 0, .string ⟨#[]⟩, .string ⟨#[]⟩]), 4, 48) := by kernel_rfl
def szAn (x : An) : Nat := x.key.size + x.text.size
theorem Qet (A : Option Addr) (cap : Nat) (l : List An) (hl : l.length <= 9223372036854775807) (hr : ∀ x ∈ l, x.key.size <= 9223372036854775807 /\ x.text.size <= 9223372036854775807) (left : Int) (h0 : 0 <= left) (h1 : left <= 1048576) (w : World) (hA : At w A l) :
 Calls Tryz.prog 59 #[.slice A l.length cap, .int .i64 left] w fun e w' => (∃ r : Int, e = .returned (.int .i64 r) /\ (r < 0 ∨ (0 <= r /\ r = left - (l.length : Int) - (Qae szAn l : Int)))) /\ Below w.heap.size w w' := by
 have HA := hidP hA
 have Hr := hidP hr
 clear hA hr
 by_cases h : left < (l.length : Int)
 . have g : left - (l.length : Int) < 0 := by omega
   go_enter Tryz.func59, Tryz.ntmps59
   go_wp2
   go_ret
   exact ⟨⟨-1, rfl, .inl (by omega)⟩, Below.refl _ _⟩
 . have g : ¬ left - (l.length : Int) < 0 := by omega
   go_enter Tryz.func59, Tryz.ntmps59
   go_wp2
   go_loopw [1, 5] (fun q i w' => ∃ (n : Nat) (z : Int), i = .int .i64 (n : Int) /\ q = .int .i64 z /\ n <= l.length /\ 0 <= z /\ z <= 1048576 /\ Hid (z = left - (l.length : Int) - (Qae szAn (l.take n) : Int)) /\ Below w.heap.size w w') (fun _ i _ => l.length - (intOf i).toNat)
   case atStart => exact ⟨0, _, rfl, rfl, by omega, by omega, by omega, by simp [Hid, Qae], Below.refl _ _⟩
   case round =>
    obtain ⟨n, z, rfl, rfl, hn, hz0, hz1, hz, hbl⟩ := hrel
    by_cases hlt : n < l.length
    . obtain ⟨b, o, rfl, hbs, hIn⟩ : ∃ b o, A = some ⟨b, o, none⟩ /\ b < w.heap.size /\ In w b o l := by
       rcases HA.out with h | h
       . subst h; simp at hlt
       . exact h
      obtain ⟨c0, c1, c2, c3⟩ := (hIn.below hbs hbl).getAn n hlt
      have hms := Hr.out _ (List.getElem_mem hlt)
      have hsn := hidP (Qas szAn l n hlt)
      go_wp2_with fail
      refine (Qfi _ _ _ _ hms.1 hms.2 z hz0 hz1 _).mono ?_
      rintro e w1 ⟨⟨r, rfl, hr⟩, g1⟩
      rcases hr with rfl | ⟨hr0, hr1⟩
      . go_wp2
        go_ret
        exact ⟨⟨-1, rfl, .inl (by omega)⟩, via0 g1 hbl⟩
      . have hp : ¬ r < 0 := by omega
        have HR1 := hidP hr1
        clear hr1
        go_wp2
        have hz' := hz.out
        have hsn' := hsn.out
        have hr' := HR1.out
        exact ⟨⟨n + 1, r, by go_num, rfl, by omega, by omega, by omega, by show _ = _; rw [hsn', hr', hz']; simp only [szAn]; omega, via0 g1 hbl⟩, by simp [intOf]; omega⟩
    . have e : l.take n = l := List.take_of_length_le (by omega)
      go_wp2
      go_ret
      have hz' := hz.out
      rw [e] at hz'
      exact ⟨⟨z, rfl, .inr ⟨hz0, hz'⟩⟩, hbl⟩
theorem Qes (A : Option Addr) (cap : Nat) (l : List An) (hl : l.length <= 1048576) (w : World) (hA : At w A l) :
 Calls Tryz.prog 70 #[.slice A l.length cap] w fun e w' => e = .returned (.slice (some ⟨w.heap.size, 0, none⟩) l.length l.length) /\ Below w.heap.size w w' /\ w.heap.size < w'.heap.size /\ In w' w.heap.size 0 l /\ w'.there w.heap.size 0 (l.length * 4) := by
 have HA := hidP hA
 clear hA
 have hmk := Qb2 (P := Tryz.prog) Tryz.underlying51 infoAn (by omega) l.length hl
 go_enter Tryz.func70, Tryz.ntmps70
 go_wp2
 go_loopw [4] (fun i w' => ∃ (n : Nat), i = .int .i64 (n : Int) /\ n <= l.length /\ Below w.heap.size w w' /\ w.heap.size < w'.heap.size /\ Hid (In w' w.heap.size 0 (l.take n)) /\ Hid (w'.there w.heap.size 0 (l.length * 4))) (fun i _ => l.length - (intOf i).toNat)
 case atStart => exact ⟨0, rfl, by omega, by repeat (first | exact Below.refl _ _ | assumption | refine via0 (by assumption) ?_ | refine Below.drew ?_ | refine Qab ?_ _), by simp, In.nil _ _ _, Qa9 w _ _ _ _⟩
 case round =>
  obtain ⟨n, rfl, hn, hbl, hsz, hin, hth⟩ := hrel
  by_cases hlt : n < l.length
  . obtain ⟨b, o, rfl, hbs, hIn⟩ : ∃ b o, A = some ⟨b, o, none⟩ /\ b < w.heap.size /\ In w b o l := by
     rcases HA.out with h | h
     . subst h; simp at hlt
     . exact h
    obtain ⟨c0, c1, c2, c3⟩ := (hIn.below hbs hbl).getAn n hlt
    obtain ⟨⟨v0, d0⟩, f0⟩ := Qad (f := 0) hth.out hlt (by omega)
    obtain ⟨⟨v1, d1⟩, f1⟩ := Qad (f := 1) hth.out hlt (by omega)
    obtain ⟨⟨v2, d2⟩, f2⟩ := Qad (f := 2) hth.out hlt (by omega)
    obtain ⟨⟨v3, d3⟩, f3⟩ := Qad (f := 3) hth.out hlt (by omega)
    simp only [Nat.zero_add, Nat.add_zero] at d0 f0 d1 f1 d2 f2 d3 f3
    go_wp2_with (go_at_call 113; refine (Qfb _ _ _ _ _).mono ?_; rintro e w1 ⟨rfl, g1⟩; obtain ⟨k1, m1⟩ := Qbf g1; have s1 := g1.size)
    have hst := Qcs (hin.out.below hsz g1) (Qa3 hth.out hsz g1) hlt
    refine ⟨⟨n + 1, by go_num, by omega, ?_, by simp; omega, hst.1, hst.2⟩, by simp [intOf]; omega⟩
    exact ((((via0 g1 hbl).setCell (Nat.le_refl _) _).setCell (Nat.le_refl _) _).setCell (Nat.le_refl _) _).setCell (Nat.le_refl _) _
  . have e : l.take n = l := List.take_of_length_le (by omega)
    go_wp2
    go_ret
    exact ⟨rfl, hbl, hsz, by have := hin.out; rwa [e] at this, hth.out⟩
theorem Qe4 (code n : Int) (k t : ByteArray) (w : World) :
 Calls Tryz.prog 125 #[.agg #[.int .i64 code, .int .i64 n, .string k, .string t], .agg #[.int .i64 code, .int .i64 n, .string k, .string t]] w fun e w' => e = .returned (.bool true) /\ Below w.heap.size w w' := by
 go_enter Tryz.func125, Tryz.ntmps125
 go_wp2
 go_ret
 exact ⟨rfl, by repeat (first | exact Below.refl _ _ | assumption | refine via0 (by assumption) ?_ | refine Below.drew ?_ | refine Qab ?_ _)⟩
theorem Qeg (A A' : Option Addr) (cap cap' : Nat) (l : List An) (hl : l.length <= 9223372036854775807) (w : World) (hA : At w A l) (hA' : At w A' l) :
 Calls Tryz.prog 84 #[.slice A l.length cap, .slice A' l.length cap'] w fun e w' => e = .returned (.bool true) /\ Below w.heap.size w w' := by
 have HA := hidP hA
 have HA' := hidP hA'
 clear hA hA'
 go_enter Tryz.func84, Tryz.ntmps84
 go_wp2
 go_loopw [5] (fun i w' => ∃ (n : Nat), i = .int .i64 (n : Int) /\ n <= l.length /\ Below w.heap.size w w') (fun i _ => l.length - (intOf i).toNat)
 case atStart => exact ⟨0, rfl, by omega, Below.refl _ _⟩
 case round =>
  obtain ⟨n, rfl, hn, hbl⟩ := hrel
  by_cases hlt : n < l.length
  . obtain ⟨b, o, rfl, hbs, hin⟩ : ∃ b o, A = some ⟨b, o, none⟩ /\ b < w.heap.size /\ In w b o l := by
     rcases HA.out with h | h
     . subst h; simp at hlt
     . exact h
    obtain ⟨b', o', rfl, hbs', hin'⟩ : ∃ b o, A' = some ⟨b, o, none⟩ /\ b < w.heap.size /\ In w b o l := by
     rcases HA'.out with h | h
     . subst h; simp at hlt
     . exact h
    obtain ⟨c0, c1, c2, c3⟩ := (hin.below hbs hbl).getAn n hlt
    obtain ⟨d0, d1, d2, d3⟩ := (hin'.below hbs' hbl).getAn n hlt
    have hb1 : b < wr.heap.size := Nat.lt_of_lt_of_le hbs hbl.size
    have hb2 : b' < wr.heap.size := Nat.lt_of_lt_of_le hbs' hbl.size
    have hi0 : (0 : Int) <= (n : Int) := by omega
    have hi1 : (n : Int) < (l.length : Int) := by omega
    go_wp2
    go_region_held3 (fun w' => w'.cell? ⟨b, o + n * 4, none⟩ = some (.int .i64 l[n].code) /\ w'.cell? ⟨b, o + n * 4 + 1, none⟩ = some (.int .i64 l[n].n) /\ w'.cell? ⟨b, o + n * 4 + 2, none⟩ = some (.string l[n].key) /\ w'.cell? ⟨b, o + n * 4 + 3, none⟩ = some (.string l[n].text) /\
     w'.cell? ⟨b', o' + n * 4, none⟩ = some (.int .i64 l[n].code) /\ w'.cell? ⟨b', o' + n * 4 + 1, none⟩ = some (.int .i64 l[n].n) /\ w'.cell? ⟨b', o' + n * 4 + 2, none⟩ = some (.string l[n].key) /\ w'.cell? ⟨b', o' + n * 4 + 3, none⟩ = some (.string l[n].text) /\ wr.heap.size <= w'.heap.size)
     (first | (go_split_ands; refine ⟨?_, ?_, ?_, ?_, ?_, ?_, ?_, ?_, ?_⟩<;>first | assumption | exact (k1 _ _ hb1).trans (by assumption) | exact (k1 _ _ hb2).trans (by assumption) | exact s1 | (simp; done)) | go_keep)
     (first
      | (go_at_call 125; refine (Qe4 _ _ _ _ _).mono ?_; rintro e w1 ⟨rfl, g1⟩; obtain ⟨k1, m1⟩ := Qbf g1; have s1 := g1.size))
    all_goals
     go_wp2
     exact ⟨⟨n + 1, by go_num, by omega, via0 g1 hbl.drew⟩, by simp [intOf]; omega⟩
  . go_wp2
    go_ret
    exact ⟨rfl, hbl⟩
def markAn (z : Int) : An := ⟨z, z + 1, Items.markZ (z + 2), Items.markZ (z + 3)⟩
def Qbj (n : Nat) (z : Int) : List An := (List.range n).map fun (i : Nat) => markAn (z + (i : Int) * 4)
theorem Qb1 (n : Nat) (z : Int) : (Qbj n z).length = n := by simp [Qbj]
theorem Qfs (n : Nat) (z : Int) : Qbj (n + 1) z = Qbj n z ++ [markAn (z + (n : Int) * 4)] := by simp [Qbj, List.range_succ]
theorem Qgv (n : Nat) (z : Int) (i : Nat) (h : i < (Qbj n z).length) : (Qbj n z)[i] = markAn (z + (i : Int) * 4) := by simp [Qbj]
theorem Qft (n : Nat) (k z : Int) (hz : z = k + (n : Int) * 4) :
 flat (Qbj n k) ++ [.int .i64 z] ++ [.int .i64 (z + 1)] ++ [.string (Items.markZ (z + 1 + 1))] ++ [.string (Items.markZ (z + 1 + 1 + 1))] = flat (Qbj (n + 1) k) := by
 subst hz
 have e2 : ∀ z : Int, z + 1 + 1 = z + 2 := fun z => by omega
 have e3 : ∀ z : Int, z + 1 + 1 + 1 = z + 3 := fun z => by omega
 rw [Qfs, Qa2, Qbe, e3, e2]
 simp [Cel.cs, markAn]
theorem Qd0 (b o cap m : Nat) (k : Int) (hk : 1 <= k) (hk' : k <= 100000000) (hm : m <= 1048576) (w : World) (hb : b < w.heap.size) (hth : w.there b o (m * 4)) :
 Calls Tryz.prog 91 #[.slice (some ⟨b, o, none⟩) m cap, .int .i64 k] w fun e w' => e = .returned (.int .i64 (k + (m : Int) * 4)) /\ Only b w w' /\ In w' b o (Qbj m k) /\ w'.there b o (m * 4) := by
 have HT := hidP hth
 clear hth
 go_enter Tryz.func91, Tryz.ntmps91
 go_wp2
 go_loopw [1, 5] (fun kk i w' => ∃ (n : Nat) (z : Int), i = .int .i64 (n : Int) /\ kk = .int .i64 z /\ n <= m /\ 1 <= z /\ z <= 900000000 /\ Only b w w' /\ Hid (z = k + (n : Int) * 4) /\ Hid (In w' b o (Qbj n k)) /\ Hid (w'.there b o (m * 4))) (fun _ i _ => m - (intOf i).toNat)
 case atStart => exact ⟨0, k, rfl, rfl, by omega, hk, by omega, Only.refl _ _, by simp [Hid], In.nil _ _ _, HT.out⟩
 case round =>
  obtain ⟨n, z, rfl, rfl, hn, hz1, hz2, ho, hz, hin, hth⟩ := hrel
  by_cases hlt : n < m
  . obtain ⟨⟨v0, d0⟩, f0⟩ := Qad (f := 0) hth.out hlt (by omega)
    rw [Nat.add_zero] at d0 f0
    obtain ⟨⟨v1, d1⟩, f1⟩ := Qad (f := 1) hth.out hlt (by omega)
    obtain ⟨⟨v2, d2⟩, f2⟩ := Qad (f := 2) hth.out hlt (by omega)
    obtain ⟨⟨v3, d3⟩, f3⟩ := Qad (f := 3) hth.out hlt (by omega)
    have q1 : b < wr.heap.size := Nat.lt_of_lt_of_le hb ho.size
    go_wp2_with (go_at_call 93; refine (Items.markText_at _ ?_ ?_ _).mono ?_; omega; omega; rintro e w1 ⟨rfl, g1⟩; obtain ⟨k1, m1⟩ := Qbf g1; have s1 := g1.size; have q1 : b < w1.heap.size := (by first | exact Qf5 q1 s1 | exact Qf5 (Qf5 q1 (Nat.le_refl _)) s1))
    have hlen : (flat (Qbj n k)).length = n * 4 := by rw [Qaw, Qb1]; rfl
    have P0 := push (v := .int .i64 z) (q := o + n * 4) ⟨hin.out, hth.out, Nat.lt_of_lt_of_le hb ho.size⟩ (by rw [hlen]; omega) (by rw [hlen])
    have P1 := push (v := .int .i64 (z + 1)) (q := o + n * 4 + 1) P0 (by simp [hlen]; omega) (by simp [hlen]; omega)
    have P2 := push (v := .string (Items.markZ (z + 1 + 1))) (q := o + n * 4 + 2) (Qdq P1 (by assumption)) (by simp [hlen]; omega) (by simp [hlen]; omega)
    have P3 := push (v := .string (Items.markZ (z + 1 + 1 + 1))) (q := o + n * 4 + 3) (Qdq P2 g1) (by simp [hlen]; omega) (by simp [hlen]; omega)
    rw [Qft n k z hz.out] at P3
    have hz' := hz.out
    refine ⟨⟨n + 1, z + 1 + 1 + 1 + 1, by go_num, rfl, by omega, by omega, by omega, ?_, by show z + 1 + 1 + 1 + 1 = _; omega, P3.1, P3.2.1⟩, by simp [intOf]; omega⟩
    exact (((((ho.set _ _).set _ _).below (by assumption)).set _ _).below g1).set _ _
  . obtain rfl : n = m := by omega
    go_wp2
    go_ret
    have e := hz.out
    subst e
    exact ⟨rfl, ho, hin.out, hth.out⟩
theorem Qd2 (A : Option Addr) (cap m : Nat) (k : Int) (hk : 1 <= k) (hk' : k <= 100000000) (hm : m <= 1048576) (w : World)
 (hA : m = 0 ∨ ∃ b o, A = some ⟨b, o, none⟩ /\ b < w.heap.size /\ In w b o (Qbj m k)) :
 Calls Tryz.prog 98 #[.slice A m cap, .int .i64 k] w fun e w' => e = .returned (.int .i64 (k + (m : Int) * 4)) /\ Below w.heap.size w w' := by
 have HA := hidP hA
 clear hA
 go_enter Tryz.func98, Tryz.ntmps98
 go_wp2
 go_loopw [1, 5] (fun kk i w' => ∃ (n : Nat) (z : Int), i = .int .i64 (n : Int) /\ kk = .int .i64 z /\ n <= m /\ 1 <= z /\ z <= 900000000 /\ Hid (z = k + (n : Int) * 4) /\ Below w.heap.size w w') (fun _ i _ => m - (intOf i).toNat)
 case atStart => exact ⟨0, k, rfl, rfl, by omega, hk, by omega, by simp [Hid], Below.refl _ _⟩
 case round =>
  obtain ⟨n, z, rfl, rfl, hn, hz1, hz2, hz, hbl⟩ := hrel
  by_cases hlt : n < m
  . obtain ⟨b, o, rfl, hbs, hin⟩ : ∃ b o, A = some ⟨b, o, none⟩ /\ b < w.heap.size /\ In w b o (Qbj m k) := by
     rcases HA.out with h | h
     . omega
     . exact h
    have hb1 : b < wr.heap.size := Nat.lt_of_lt_of_le hbs hbl.size
    obtain ⟨c0, c1, c2, c3⟩ : wr.cell? ⟨b, o + n * 4, none⟩ = some (.int .i64 z) /\ wr.cell? ⟨b, o + n * 4 + 1, none⟩ = some (.int .i64 (z + 1)) /\ wr.cell? ⟨b, o + n * 4 + 2, none⟩ = some (.string (Items.markZ (z + 1 + 1))) /\
     wr.cell? ⟨b, o + n * 4 + 3, none⟩ = some (.string (Items.markZ (z + 1 + 1 + 1))) := by
     have h := (hin.below hbs hbl).getAn n (by rw [Qb1]; exact hlt)
     rw [Qgv] at h
     have e2 : z + 1 + 1 = z + 2 := by omega
     have e3 : z + 1 + 1 + 1 = z + 3 := by omega
     rw [e3, e2, hz.out]
     exact h
    have hi0 : (0 : Int) <= (n : Int) := by omega
    have hi1 : (n : Int) < (m : Int) := by omega
    go_wp2
    go_region_held3 (fun w' => w'.cell? ⟨b, o + n * 4 + 2, none⟩ = some (.string (Items.markZ (z + 1 + 1))) /\ w'.cell? ⟨b, o + n * 4 + 3, none⟩ = some (.string (Items.markZ (z + 1 + 1 + 1))) /\ b < w'.heap.size)
     (first | (go_split_ands; refine ⟨?_, ?_, ?_⟩<;>first | assumption | exact (k1 _ _ (by assumption)).trans (by assumption) | exact Nat.lt_of_lt_of_le (by assumption) s1 | (simp; done)) | go_keep)
     (first
      | (go_at_call 93; refine (Items.markText_at _ ?_ ?_ _).mono ?_; omega; omega; rintro e w1 ⟨rfl, g1⟩; obtain ⟨k1, m1⟩ := Qbf g1; have s1 := g1.size))
    go_split_ands
    go_wp2
    go_region_held3 (fun w' => w'.cell? ⟨b, o + n * 4 + 3, none⟩ = some (.string (Items.markZ (z + 1 + 1 + 1))) /\ b < w'.heap.size)
     (first | (go_split_ands; refine ⟨?_, ?_⟩<;>first | assumption | exact (k2 _ _ (by assumption)).trans (by assumption) | exact Nat.lt_of_lt_of_le (by assumption) s2 | (simp; done)) | go_keep)
     (first
      | (go_at_call 93; refine (Items.markText_at _ ?_ ?_ _).mono ?_; omega; omega; rintro e w2 ⟨rfl, g2⟩; obtain ⟨k2, m2⟩ := Qbf g2; have s2 := g2.size))
    go_split_ands
    go_wp2
    have hz' := hz.out
    exact ⟨⟨n + 1, z + 1 + 1 + 1 + 1, by go_num, rfl, by omega, by omega, by omega, by show z + 1 + 1 + 1 + 1 = _; omega, via0 g2 (via0 g1 hbl.drew).drew⟩, by simp [intOf]; omega⟩
  . obtain rfl : n = m := by omega
    go_wp2
    go_ret
    have e := hz.out
    subst e
    exact ⟨rfl, hbl⟩
theorem openAn {H : Type} {enc : TypeId × Value -> H} {w : World} {base n : Nat} {spare : Nat -> Bool} {held : Bool} {a : Addr} {cs : List Value} {y : DataW H × List MemPlace}
 (h1 : w.cells? base a 4 = some cs) (h2 : DataW.trod enc Tryz.prog w base spare held n 162 cs = some y) :
 ∃ x : An, x.right /\ a.spot = none /\ a.block < w.heap.size /\ ∀ j v, (Cel.cs x)[j]? = some v -> w.cell? ⟨a.block, a.off + j, none⟩ = some v := by
 obtain ⟨_, hlen, hc⟩ := World.cells?_some h1
 match cs, hlen with
 | [c0, c1, c2, c3], _ =>
  obtain ⟨m, hf⟩ := Qbt Tryz.underlying162 (by kernel_rfl) h2
  obtain ⟨y0, g0⟩ := hf 0 _ rfl _ rfl
  obtain ⟨y1, g1⟩ := hf 1 _ rfl _ rfl
  obtain ⟨y2, g2⟩ := hf 2 _ rfl _ rfl
  obtain ⟨y3, g3⟩ := hf 3 _ rfl _ rfl
  obtain ⟨code, e0, _, w0⟩ := DataW.trod_int Tryz.underlying3 g0
  obtain ⟨nn, e1, _, w1⟩ := DataW.trod_int Tryz.underlying3 g1
  obtain ⟨key, e2, _, w2⟩ := DataW.trod_string Tryz.underlying9 g2
  obtain ⟨text, e3, _, w3⟩ := DataW.trod_string Tryz.underlying9 g3
  simp at e0 e1 e2 e3
  subst e0 e1 e2 e3
  have q0 := hc 0 (by omega)
  have hsp : a.spot = none := by
   cases hs : a.spot with
   | none => rfl
   | some s => exfalso; simp [Addr.add, World.cell?, hs] at q0; split at q0<;>simp at q0
  have hlt : a.block < w.heap.size := by
   rw [show a.add 0 = a from rfl] at q0
   unfold World.cell? at q0
   cases hh : w.heap[a.block]? with
   | none => simp [hh] at q0
   | some ob => exact (Array.getElem?_eq_some_iff.1 hh).1
  refine ⟨⟨code, nn, key, text⟩, ⟨Qa8 w0, Qa8 w1, by simpa [maxLen] using w2, by simpa [maxLen] using w3⟩, hsp, hlt, ?_⟩
  intro j v hv
  have hj : j < 4 := (List.getElem?_eq_some_iff.1 hv).1
  have q := hc j hj
  have e : a.add j = ⟨a.block, a.off + j, none⟩ := by
   obtain ⟨b, o, s⟩ := a
   simp only at hsp
   subst hsp
   exact Addr.add_mid b o j
  rw [e] at q
  rw [q]
  exact hv
theorem Qdy {H : Type} {enc : TypeId × Value -> H} {W : World} {base n : Nat} {spare : Nat -> Bool} {held : Bool} {c : Value} {y : DataW H × List MemPlace}
 (g : DataW.trod enc Tryz.prog W base spare held n 29 [c] = some y) :
 ∃ (A : Option Addr) (cap : Nat) (l : List An), c = .slice A l.length cap /\ l.length <= 9223372036854775807 /\ (∀ x ∈ l, x.right) /\ At W A l := by
 rcases open_slice Tryz.underlying29 g with ⟨e2, _⟩ | ⟨a, len, cap, m, n', D, Pl, e2, _, hl, hm, hmm, _, hx⟩
 . simp at e2
   subst e2
   exact ⟨none, 0, [], rfl, by simp, by simp, .inl rfl⟩
 . simp at e2
   subst e2
   have hle : len <= m := by rw [hmm]; split<;>omega
   rw [cellsAns] at hx
   obtain ⟨X, hX⟩ := choose_lt (α := An) (p := fun i x => x.right /\ (a.add (i * 4)).spot = none /\ (a.add (i * 4)).block < W.heap.size /\ ∀ j v, (Cel.cs x)[j]? = some v -> W.cell? ⟨(a.add (i * 4)).block, (a.add (i * 4)).off + j, none⟩ = some v)
    (n := len) (fun i hi => by obtain ⟨cs', h1, h2⟩ := hx i (by omega); exact openAn h1 h2)
   obtain ⟨l, rfl, hR, hat⟩ := Qd3 (α := An) (by decide) (R := An.right) hX
   exact ⟨some a, cap, l, rfl, by simp [maxLen] at hm ⊢; omega, hR, hat⟩
end Go.Proofs.YtmdaammalacifaaGreat.Gen
