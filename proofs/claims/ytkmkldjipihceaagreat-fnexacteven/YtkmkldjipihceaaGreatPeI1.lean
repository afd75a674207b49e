/-
  The program's feedsRight: which places of nodes are right. No condition but the sizes of lists.
-/
import Derived.Test.YtkmkldjipihceaaGreatLGet
set_option linter.unusedVariables false
set_option linter.unusedSimpArgs false
set_option maxRecDepth 100000
set_option maxHeartbeats 8000000
set_option maxRecDepth 100000
set_option maxHeartbeats 8000000
namespace Go.Proofs.YtkmkldjipihceaaGreat.Gen
open ChangeShapes WideShapes ChangeAt RowKit Joins Deep Base
theorem feed1_any (z ln : Int) (hl : 0 <= ln /\ ln <= 300) (Bl : Nat) (w : World) (hB : Blk w Bl 156 #[.int .i64 ln]) :
 Calls Tryz.prog 159 #[.int .i64 z, .pointer (some ⟨Bl, 0, none⟩)] w fun e w' => e = .returned (.bool (inB z 1 (ln + 1))) /\ w' = w := by
 have c0 : w.cell? ⟨Bl, 0, none⟩ = some (.int .i64 ln) := hB.cell rfl
 obtain ⟨h0, h1⟩ := hl
 have HC := hidP (within_any z 1 (ln + 1))
 have q0 := hB.lt
 clear hB
 go_enter Tryz.func159, Tryz.ntmps159
 go_wp2_with fail
 refine (HC.out _).mono ?_
 rintro e w1 ⟨rfl, rfl⟩
 go_wp2
 go_ret
 exact ⟨rfl, rfl⟩
theorem Qgc (ln : Int) (hl : 0 <= ln /\ ln <= 300) (Bl : Nat) (A : Option Addr) (cap : Nat) (l : List Int) (hll : l.length <= 1048576) (w : World) (hB : Blk w Bl 156 #[.int .i64 ln]) (hA : At w A l) :
 Calls Tryz.prog 55 #[.slice A l.length cap, .func (.func 159) #[] #[.pointer (some ⟨Bl, 0, none⟩)]] w fun e w' => e = .returned (.bool (l.all (fun z => inB z 1 (ln + 1)))) /\ Below w.heap.size w w' := by
 have HA := hidP hA
 have HB := hidP hB
 have HL := hidP hl
 clear hA hB hl
 go_enter Tryz.func55, Tryz.ntmps55
 go_wp2
 go_loopw [9] (fun i w' => ∃ (n : Nat), i = .int .i64 (n : Int) /\ n <= l.length /\ Hid ((l.take n).all (fun z => inB z 1 (ln + 1)) = true) /\ Below w.heap.size w w') (fun i _ => l.length - (intOf i).toNat)
 case atStart => exact ⟨0, rfl, by omega, rfl, Below.refl _ _⟩
 case round =>
  obtain ⟨n, rfl, hn, hall, hbl⟩ := hrel
  by_cases hlt : n < l.length
  . obtain ⟨b, o, rfl, hbs, hIn⟩ : ∃ b o, A = some ⟨b, o, none⟩ /\ b < w.heap.size /\ In w b o l := by
     rcases HA.out with h | h
     . subst h; simp at hlt
     . exact h
    have c0 := (hIn.below hbs hbl).getInt n hlt
    have hb1 : b < wr.heap.size := Nat.lt_of_lt_of_le hbs hbl.size
    have HC : Calls Tryz.prog 159 #[.int .i64 l[n], .pointer (some ⟨Bl, 0, none⟩)] wr fun e w' => e = .returned (.bool (inB l[n] 1 (ln + 1))) /\ w' = wr := feed1_any l[n] ln HL.out Bl wr (HB.out.below hbl HB.out.lt)
    have hsu := Qbs (fun z => inB z 1 (ln + 1)) hlt
    have hno := Qc3 (fun z => inB z 1 (ln + 1)) hlt
    generalize hb : inB l[n] 1 (ln + 1) = bb at HC hsu hno
    have HC := hidP HC
    have Hsu := hidP hsu
    have Hno := hidP hno
    clear hb hsu hno
    generalize l[n] = zz at c0 HC
    have hi0 : (0 : Int) <= (n : Int) := by omega
    have hi1 : (n : Int) < (l.length : Int) := by omega
    cases bb
    . have HN := hidP (Hno.out rfl)
      clear Hno Hsu
      go_wp2_with fail
      refine HC.out.mono ?_
      rintro e w1 ⟨rfl, hw1⟩
      subst w1
      go_wp2
      go_ret
      exact ⟨by rw [HN.out]; rfl, hbl⟩
    . clear Hno
      go_wp2_with fail
      refine HC.out.mono ?_
      rintro e w1 ⟨rfl, hw1⟩
      subst w1
      go_wp2
      exact ⟨⟨n + 1, by go_num, by omega, by show _ = _; rw [Hsu.out, hall.out]; rfl, hbl⟩, by simp [intOf]; omega⟩
  . have e : l.take n = l := List.take_of_length_le (by omega)
    go_wp2
    go_ret
    have h := hall.out
    rw [e] at h
    exact ⟨by rw [h]; rfl, hbl⟩
theorem feed2_any (z ln : Int) (hl : 0 <= ln /\ ln <= 300) (Bl : Nat) (w : World) (hB : Blk w Bl 156 #[.int .i64 ln]) :
 Calls Tryz.prog 160 #[.int .i64 z, .pointer (some ⟨Bl, 0, none⟩)] w fun e w' => e = .returned (.bool (inB z 0 (ln))) /\ w' = w := by
 have c0 : w.cell? ⟨Bl, 0, none⟩ = some (.int .i64 ln) := hB.cell rfl
 obtain ⟨h0, h1⟩ := hl
 have HC := hidP (within_any z 0 (ln))
 have q0 := hB.lt
 clear hB
 go_enter Tryz.func160, Tryz.ntmps160
 go_wp2_with fail
 refine (HC.out _).mono ?_
 rintro e w1 ⟨rfl, rfl⟩
 go_wp2
 go_ret
 exact ⟨rfl, rfl⟩
theorem Qgb (ln : Int) (hl : 0 <= ln /\ ln <= 300) (Bl : Nat) (A : Option Addr) (cap : Nat) (l : List Int) (hll : l.length <= 1048576) (w : World) (hB : Blk w Bl 156 #[.int .i64 ln]) (hA : At w A l) :
 Calls Tryz.prog 55 #[.slice A l.length cap, .func (.func 160) #[] #[.pointer (some ⟨Bl, 0, none⟩)]] w fun e w' => e = .returned (.bool (l.all (fun z => inB z 0 (ln)))) /\ Below w.heap.size w w' := by
 have HA := hidP hA
 have HB := hidP hB
 have HL := hidP hl
 clear hA hB hl
 go_enter Tryz.func55, Tryz.ntmps55
 go_wp2
 go_loopw [9] (fun i w' => ∃ (n : Nat), i = .int .i64 (n : Int) /\ n <= l.length /\ Hid ((l.take n).all (fun z => inB z 0 (ln)) = true) /\ Below w.heap.size w w') (fun i _ => l.length - (intOf i).toNat)
 case atStart => exact ⟨0, rfl, by omega, rfl, Below.refl _ _⟩
 case round =>
  obtain ⟨n, rfl, hn, hall, hbl⟩ := hrel
  by_cases hlt : n < l.length
  . obtain ⟨b, o, rfl, hbs, hIn⟩ : ∃ b o, A = some ⟨b, o, none⟩ /\ b < w.heap.size /\ In w b o l := by
     rcases HA.out with h | h
     . subst h; simp at hlt
     . exact h
    have c0 := (hIn.below hbs hbl).getInt n hlt
    have hb1 : b < wr.heap.size := Nat.lt_of_lt_of_le hbs hbl.size
    have HC : Calls Tryz.prog 160 #[.int .i64 l[n], .pointer (some ⟨Bl, 0, none⟩)] wr fun e w' => e = .returned (.bool (inB l[n] 0 (ln))) /\ w' = wr := feed2_any l[n] ln HL.out Bl wr (HB.out.below hbl HB.out.lt)
    have hsu := Qbs (fun z => inB z 0 (ln)) hlt
    have hno := Qc3 (fun z => inB z 0 (ln)) hlt
    generalize hb : inB l[n] 0 (ln) = bb at HC hsu hno
    have HC := hidP HC
    have Hsu := hidP hsu
    have Hno := hidP hno
    clear hb hsu hno
    generalize l[n] = zz at c0 HC
    have hi0 : (0 : Int) <= (n : Int) := by omega
    have hi1 : (n : Int) < (l.length : Int) := by omega
    cases bb
    . have HN := hidP (Hno.out rfl)
      clear Hno Hsu
      go_wp2_with fail
      refine HC.out.mono ?_
      rintro e w1 ⟨rfl, hw1⟩
      subst w1
      go_wp2
      go_ret
      exact ⟨by rw [HN.out]; rfl, hbl⟩
    . clear Hno
      go_wp2_with fail
      refine HC.out.mono ?_
      rintro e w1 ⟨rfl, hw1⟩
      subst w1
      go_wp2
      exact ⟨⟨n + 1, by go_num, by omega, by show _ = _; rw [Hsu.out, hall.out]; rfl, hbl⟩, by simp [intOf]; omega⟩
  . have e : l.take n = l := List.take_of_length_le (by omega)
    go_wp2
    go_ret
    have h := hall.out
    rw [e] at h
    exact ⟨by rw [h]; rfl, hbl⟩
end Go.Proofs.YtkmkldjipihceaaGreat.Gen
