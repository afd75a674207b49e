/-
  The program's writer of groups and of a keeper. Condition: at most 500000000 bytes.
-/
import Derived.Test.YtaefjifcnoiplaaGreatKBw2
namespace Go.Proofs.YtaefjifcnoiplaaGreat.Gen
open Go.ChangeShapes Go.WideShapes Go.ChangeAt Go.RowKit Go.Joins Go.Deep Base
open Items (It)
set_option linter.unusedVariables false
set_option linter.unusedSimpArgs false
theorem zip_at {m b : List Int} {n : Nat} (h1 : n < m.length) (h2 : n < b.length) : (List.zip m b)[n]'(by rw [List.length_zip]; omega) = (m[n], b[n]) := by simp
set_option maxRecDepth 100000 in
set_option maxHeartbeats 2000000 in
theorem group_core (P : Nat -> Prop) (z : Nat) (gen : Int) (a1 : Option Addr) (c1 : Nat) (m : List Int) (a2 : Option Addr) (c2 : Nat) (b : List Int) (a3 : Option Addr) (c3 : Nat) (o : List Int) (hR : GcR (⟨gen, a1, c1, m, a2, c2, b, a3, c3, o⟩ : GC)) (xs : List UInt8) (hx : xs.length + (gcB (⟨gen, a1, c1, m, a2, c2, b, a3, c3, o⟩ : GC)).length <= 500000000) (w : World) (hN1 : Pt P w a1 m) (hN2 : Pt P w a2 b) (hN3 : Pt P w a3 o) (hW : Wr P z w xs) :
    Calls Tryz.prog 158 #[.pointer (some ⟨z, 0, none⟩), .agg #[.int .i64 gen, .slice a1 m.length c1, .slice a2 b.length c2, .slice a3 o.length c3]] w fun e w' => e = .returned (.tuple #[]) /\ Turn P w w' /\ Wr P z w' (xs ++ gcB (⟨gen, a1, c1, m, a2, c2, b, a3, c3, o⟩ : GC)) := by
  have tw : Turn P w (w.alloc (.cells #[.int .i64 gen, .slice a1 m.length c1, .slice a2 b.length c2, .slice a3 o.length c3] 144)) := Turn.of_below (alloc0 (Below.refl _ w) _) hW.lt
  have H0 := hW.keep (.cells #[.int .i64 gen, .slice a1 m.length c1, .slice a2 b.length c2, .slice a3 o.length c3] 144)
  have p0 := Blk.new w 144 #[.int .i64 gen, .slice a1 m.length c1, .slice a2 b.length c2, .slice a3 o.length c3]
  have hat := newL (w.alloc (.cells #[.int .i64 gen, .slice a1 m.length c1, .slice a2 b.length c2, .slice a3 o.length c3] 144)) ([gen, (m.length : Int)] : List Int) #[.int .i64 gen, .int .i64 (m.length : Int)] 3 rfl
  have hwr := H0.keep (.cells #[.int .i64 gen, .int .i64 (m.length : Int)] 3)
  have pz := p0.alloc (.cells #[.int .i64 gen, .int .i64 (m.length : Int)] 3)
  have tk : Turn (fun k => P k ∨ k = w.heap.size) (w.alloc (.cells #[.int .i64 gen, .slice a1 m.length c1, .slice a2 b.length c2, .slice a3 o.length c3] 144)) ((w.alloc (.cells #[.int .i64 gen, .slice a1 m.length c1, .slice a2 b.length c2, .slice a3 o.length c3] 144)).alloc (.cells #[.int .i64 gen, .int .i64 (m.length : Int)] 3)) := Turn.of_below (alloc0 (Below.refl _ _) _) H0.lt
  simp only [World.size_alloc] at hat hwr
  have Hx : Hid (xs.length + ((numsB [gen, (m.length : Int)]).length + ((memB m b).length + (numsB o).length)) <= 500000000) := by have h := hx; unfold gcB at h; simp only [List.length_append] at h; exact hidP h
  have Hat := hidP hat
  have Hwr := hidP hwr
  have Hpz := hidP pz
  have Htk := hidP tk
  have Htw := hidP tw
  have HN1 := hidP hN1
  have HN2 := hidP hN2
  have HN3 := hidP hN3
  have HR := hidP hR
  have hml : m.length <= 300000 := hR.len
  have hbl : b.length = m.length := hR.same
  have Hbl := hidP hbl
  clear hat hwr pz tk tw hN1 hN2 hN3 hW H0 p0 hx hR hbl
  go_enter Tryz.func158, Tryz.ntmps158
  go_wp2_with fail
  refine (numbers_any (fun k => (P k ∨ k = w.heap.size) ∨ k = w.heap.size + 1) z (some ⟨w.heap.size + 1, 0, none⟩) 2 [gen, (m.length : Int)] (by simp) (by have : 0 <= gen /\ gen <= 2147483647 := HR.out.gen; simp; omega) _ (by have := Hx.out; simp; omega) _ Hat.out (.inr fun k o' e => by cases e; exact .inr rfl) Hwr.out).mono ?_
  rintro e w1 ⟨rfl, t1, h1⟩
  have p1 := Hpz.out.turn t1 (.inl (.inr rfl))
  have T1 : Turn (fun k => P k ∨ k = w.heap.size) (w.alloc (.cells #[.int .i64 gen, .slice a1 m.length c1, .slice a2 b.length c2, .slice a3 o.length c3] 144)) w1 := Htk.out.trans (t1.mono (fun k hk => .inl hk))
  have H1 := hidP (h1.mono (Q := (fun k => P k ∨ k = w.heap.size)) (fun k hk => .inl hk))
  have HT1 : Hid (Turn P w w1) := hidP (Htw.out.trans (T1.mono (fun k hk => .inl hk)))
  have Hp1 := hidP p1
  have d0 : w1.cell? ⟨w.heap.size, 0, none⟩ = some (.int .i64 gen) := p1.cell (i := 0) rfl
  have d1 : w1.cell? ⟨w.heap.size, 1, none⟩ = some (.slice a1 m.length c1) := p1.cell (i := 1) rfl
  have d2 : w1.cell? ⟨w.heap.size, 2, none⟩ = some (.slice a2 b.length c2) := p1.cell (i := 2) rfl
  have d3 : w1.cell? ⟨w.heap.size, 3, none⟩ = some (.slice a3 o.length c3) := p1.cell (i := 3) rfl
  have qb := p1.lt
  have HM1 := hidP ((HN1.out.turn HT1.out).mono (Q := (fun k => P k ∨ k = w.heap.size)) (fun k hk => .inl hk))
  have HM2 := hidP ((HN2.out.turn HT1.out).mono (Q := (fun k => P k ∨ k = w.heap.size)) (fun k hk => .inl hk))
  have HM3 := hidP ((HN3.out.turn HT1.out).mono (Q := (fun k => P k ∨ k = w.heap.size)) (fun k hk => .inl hk))
  clear Hat Hwr Hpz Htk Htw t1 h1 p1 T1 HN1 HN2 HN3
  go_wp2
  go_loopw [17] (fun i W => ∃ (n : Nat), i = .int .i64 (n : Int) /\ n <= m.length /\ Hid (Turn (fun k => P k ∨ k = w.heap.size) w1 W) /\ Hid (Wr (fun k => P k ∨ k = w.heap.size) z W (xs ++ numsB [gen, (m.length : Int)] ++ ((List.zip m b).take n).flatMap fun p => numsB [p.1, p.2]))) (fun i _ => m.length - (intOf i).toNat)
  case atStart => exact ⟨0, rfl, by omega, Turn.refl _ _, by simpa using H1⟩
  case round =>
    obtain ⟨n, rfl, hn, hT, hO⟩ := hrel
    have pw := Hp1.out.turn hT.out (.inr rfl)
    have qw := pw.lt
    have e0 : wr.cell? ⟨w.heap.size, 0, none⟩ = some (.int .i64 gen) := pw.cell (i := 0) rfl
    have e1 : wr.cell? ⟨w.heap.size, 1, none⟩ = some (.slice a1 m.length c1) := pw.cell (i := 1) rfl
    have e2 : wr.cell? ⟨w.heap.size, 2, none⟩ = some (.slice a2 b.length c2) := pw.cell (i := 2) rfl
    have e3 : wr.cell? ⟨w.heap.size, 3, none⟩ = some (.slice a3 o.length c3) := pw.cell (i := 3) rfl
    by_cases hlt : n < m.length
    . have hltb : n < b.length := by have := Hbl.out; omega
      have hzl : n < (List.zip m b).length := by rw [List.length_zip]; omega
      obtain ⟨b1, o1, rfl, hb1, hi1'⟩ : ∃ b' o', a1 = some ⟨b', o', none⟩ /\ b' < w1.heap.size /\ In w1 b' o' m := by
        rcases HM1.out.1 with h | h
        . subst h; simp at hlt
        . exact h
      obtain ⟨b2, o2, rfl, hb2, hi2'⟩ : ∃ b' o', a2 = some ⟨b', o', none⟩ /\ b' < w1.heap.size /\ In w1 b' o' b := by
        rcases HM2.out.1 with h | h
        . subst h; simp at hltb
        . exact h
      have hP1 : (fun k => P k ∨ k = w.heap.size) b1 := by
        rcases HM1.out.2 with h | h
        . subst h; simp at hlt
        . exact h b1 o1 rfl
      have hP2 : (fun k => P k ∨ k = w.heap.size) b2 := by
        rcases HM2.out.2 with h | h
        . subst h; simp at hltb
        . exact h b2 o2 rfl
      have k1 := (hi1'.turn hT.out hP1).getInt n hlt
      have k2 := (hi2'.turn hT.out hP2).getInt n hltb
      have hm0 := HR.out.m m[n] (List.getElem_mem hlt)
      have hb0 := HR.out.b b[n] (List.getElem_mem hltb)
      have hi0 : (0 : Int) <= (n : Int) := by omega
      have hi1 : (n : Int) < (m.length : Int) := by omega
      have hi2 : (n : Int) < (b.length : Int) := by omega
      have hto := hidP (flat_take (fun p : Int × Int => numsB [p.1, p.2]) hzl)
      rw [zip_at hlt hltb] at hto
      have hle := flat_take_le (fun p : Int × Int => numsB [p.1, p.2]) (List.zip m b) (n + 1)
      have hbd : Hid ((xs ++ numsB [gen, (m.length : Int)] ++ ((List.zip m b).take n).flatMap fun p => numsB [p.1, p.2]).length <= 500000000) := by
        show _ <= _
        have h1 := Hx.out
        have h2 := flat_take_le (fun p : Int × Int => numsB [p.1, p.2]) (List.zip m b) n
        unfold memB at h1
        simp only [List.length_append]
        omega
      clear hi1' hi2' hP1 hP2 hle
      generalize m[n] = mv at *
      generalize b[n] = bv at *
      have hat := newL wr ([mv, bv] : List Int) #[.int .i64 mv, .int .i64 bv] 3 rfl
      have hwr := hO.out.keep (.cells #[.int .i64 mv, .int .i64 bv] 3)
      have tk : Turn (fun k => P k ∨ k = w.heap.size) wr (wr.alloc (.cells #[.int .i64 mv, .int .i64 bv] 3)) := Turn.of_below (alloc0 (Below.refl _ _) _) hO.out.lt
      have Hat := hidP hat
      have Hwr := hidP hwr
      have Htk := hidP (hT.out.trans tk)
      clear hat hwr tk hO hT
      go_wp2_with fail
      refine (numbers_any (fun k => (P k ∨ k = w.heap.size) ∨ k = wr.heap.size) z (some ⟨wr.heap.size, 0, none⟩) 2 [mv, bv] (by simp) (by simp; omega) _ (by have := hbd.out; simp only [List.length_cons, List.length_nil]; omega) _ Hat.out (.inr fun k o' e => by cases e; exact .inr rfl) Hwr.out).mono ?_
      rintro e w2 ⟨rfl, t2, h2⟩
      have HT2 := hidP (Htk.out.trans (t2.mono (fun k hk => .inl hk)))
      have h2' := h2.mono (Q := (fun k => P k ∨ k = w.heap.size)) (fun k hk => .inl hk)
      rw [List.append_assoc, ← hto.out] at h2'
      have H2 := hidP h2'
      clear t2 h2 h2' Hat Hwr Htk
      go_wp2
      exact ⟨⟨n + 1, by go_num, by omega, HT2, H2⟩, by simp [intOf]; omega⟩
    . obtain rfl : n = m.length := by omega
      have hzt : (List.zip m b).take m.length = List.zip m b := List.take_of_length_le (by rw [List.length_zip]; omega)
      rw [hzt] at hO
      have hbd : Hid ((xs ++ numsB [gen, (m.length : Int)] ++ memB m b).length + 5 * o.length <= 599990000) := by
        show _ <= _
        have h1 := Hx.out
        have : o.length <= 300000 := HR.out.leo
        simp only [List.length_append]
        omega
      have HM3' := hidP (HM3.out.turn hT.out)
      have HO := hidP (show Wr (fun k => P k ∨ k = w.heap.size) z wr (xs ++ numsB [gen, (m.length : Int)] ++ memB m b) from hO.out)
      clear hO hzt
      go_wp2_with fail
      refine (numbers_any (fun k => P k ∨ k = w.heap.size) z a3 c3 o (by have : o.length <= 300000 := HR.out.leo; omega) HR.out.o _ hbd.out _ HM3'.out.1 HM3'.out.2 HO.out).mono ?_
      rintro e w2 ⟨rfl, t2, h2⟩
      have HT2 := hidP (HT1.out.trans ((hT.out.trans t2).mono (fun k hk => .inl hk)))
      have H2 := hidP (h2.mono (Q := P) (fun k hk => .inl hk))
      clear t2 h2
      go_wp2
      go_end0
      refine ⟨rfl, HT2.out, ?_⟩
      have := H2.out
      simpa only [gcB, List.append_assoc] using this
theorem group_any (P : Nat -> Prop) (z : Nat) (x : GC) (hR : GcR x) (xs : List UInt8) (hx : xs.length + (gcB x).length <= 500000000) (w : World) (hN : Pt P w x.a1 x.m /\ Pt P w x.a2 x.b /\ Pt P w x.a3 x.o) (hW : Wr P z w xs) :
    Calls Tryz.prog 158 #[.pointer (some ⟨z, 0, none⟩), .agg #[.int .i64 x.gen, .slice x.a1 x.m.length x.c1, .slice x.a2 x.b.length x.c2, .slice x.a3 x.o.length x.c3]] w fun e w' => e = .returned (.tuple #[]) /\ Turn P w w' /\ Wr P z w' (xs ++ gcB x) :=
  group_core P z x.gen x.a1 x.c1 x.m x.a2 x.c2 x.b x.a3 x.c3 x.o hR xs hx w hN.1 hN.2.1 hN.2.2 hW
set_option maxRecDepth 100000 in
set_option maxHeartbeats 1000000 in
theorem writeGroups_any (P : Nat -> Prop) (z : Nat) (A : Option Addr) (cap : Nat) (L : List GC) (hl : L.length <= 1048576) (hR : ∀ y ∈ L, GcR y) (xs : List UInt8) (hx : xs.length + (gcsB L).length <= 500000000) (w : World) (hA : Pt P w A L) (hN : ∀ y ∈ L, (Pt P w y.a1 y.m /\ Pt P w y.a2 y.b /\ Pt P w y.a3 y.o)) (hW : Wr P z w xs) :
    Calls Tryz.prog 157 #[.pointer (some ⟨z, 0, none⟩), .slice A L.length cap, .func (.func 158) #[] #[]] w fun e w' => e = .returned (.tuple #[]) /\ Turn P w w' /\ Wr P z w' (xs ++ gcsB L) := by
  have HA := hidP hA
  have HW := hidP hW
  have HR := hidP hR
  have HN := hidP hN
  have Hx : Hid (xs.length + ((numI (L.length : Int)).length + (L.flatMap gcB).length) <= 500000000) := by have h := hx; unfold gcsB at h; rw [List.length_append] at h; exact hidP h
  clear hA hW hR hx hN
  go_enter Tryz.func157, Tryz.ntmps157
  go_wp2_with fail
  refine (numberI_any P z (L.length : Int) (by omega) xs (by have := Hx.out; omega) _ HW.out).mono ?_
  rintro e w0 ⟨rfl, t0, h0⟩
  have T0 := hidP t0
  have H0 := hidP h0
  clear t0 h0 HW
  go_wp2
  go_loopw [14] (fun i W => ∃ (n : Nat), i = .int .i64 (n : Int) /\ n <= L.length /\ Hid (Turn P w W) /\ Hid (Wr P z W (xs ++ numI (L.length : Int) ++ (L.take n).flatMap gcB))) (fun i _ => L.length - (intOf i).toNat)
  case atStart => exact ⟨0, rfl, by omega, T0, by simpa using H0⟩
  case round =>
    obtain ⟨n, rfl, hn, hT, hO⟩ := hrel
    by_cases hlt : n < L.length
    . obtain ⟨b, o, rfl, hbs, hin⟩ : ∃ b o, A = some ⟨b, o, none⟩ /\ b < w.heap.size /\ In w b o L := by
        rcases HA.out.1 with h | h
        . subst h; simp at hlt
        . exact h
      have hPb : ∀ b' o', some (⟨b, o, none⟩ : Addr) = some ⟨b', o', none⟩ -> P b' := by
        rcases HA.out.2 with h | h
        . subst h; simp at hlt
        . exact h
      have c0 : wr.cell? ⟨b, o + n * 4, none⟩ = some (.int .i64 L[n].gen) := (hin.turn hT.out (hPb b o rfl)).cell n hlt (f := 0) rfl
      have c1 : wr.cell? ⟨b, o + n * 4 + 1, none⟩ = some (.slice L[n].a1 L[n].m.length L[n].c1) := (hin.turn hT.out (hPb b o rfl)).cell n hlt (f := 1) rfl
      have c2 : wr.cell? ⟨b, o + n * 4 + 2, none⟩ = some (.slice L[n].a2 L[n].b.length L[n].c2) := (hin.turn hT.out (hPb b o rfl)).cell n hlt (f := 2) rfl
      have c3 : wr.cell? ⟨b, o + n * 4 + 3, none⟩ = some (.slice L[n].a3 L[n].o.length L[n].c3) := (hin.turn hT.out (hPb b o rfl)).cell n hlt (f := 3) rfl
      have hi0 : (0 : Int) <= (n : Int) := by omega
      have hi1 : (n : Int) < (L.length : Int) := by omega
      have hRx := HR.out L[n] (List.getElem_mem hlt)
      have hNx := HN.out L[n] (List.getElem_mem hlt)
      have hto := hidP (flat_take gcB hlt)
      have hle := flat_take_le gcB L (n + 1)
      rw [hto.out, List.length_append] at hle
      have hbd : Hid ((xs ++ numI (L.length : Int) ++ (L.take n).flatMap gcB).length + (gcB L[n]).length <= 500000000) := by
        show _ <= _
        have := Hx.out
        simp only [List.length_append]
        omega
      clear hin hle
      generalize L[n] = x at *
      generalize (L.take n).flatMap gcB = ys at *
      generalize xs ++ numI (L.length : Int) = zs at *
      have Hwr := hidP (hO.out.below (alloc0 (Below.refl _ wr) (.cells #[.int .i64 x.gen, .slice x.a1 x.m.length x.c1, .slice x.a2 x.b.length x.c2, .slice x.a3 x.o.length x.c3] 144)))
      have hTa := hidP (hT.out.trans (Turn.of_below (alloc0 (Below.refl _ wr) (.cells #[.int .i64 x.gen, .slice x.a1 x.m.length x.c1, .slice x.a2 x.b.length x.c2, .slice x.a3 x.o.length x.c3] 144)) hO.out.lt))
      clear hO
      go_wp2_with fail
      refine (group_any P z x hRx _ hbd.out _ ⟨hNx.1.turn hTa.out, hNx.2.1.turn hTa.out, hNx.2.2.turn hTa.out⟩ Hwr.out).mono ?_
      rintro e w1 ⟨rfl, t1, h1⟩
      have HT1 := hidP (hTa.out.trans t1)
      rw [List.append_assoc, ← hto.out] at h1
      have H1 := hidP h1
      clear t1 h1 hT hTa Hwr
      go_wp2
      exact ⟨⟨n + 1, by go_num, by omega, HT1, H1⟩, by simp [intOf]; omega⟩
    . obtain rfl : n = L.length := by omega
      rw [List.take_length] at hO
      go_wp2
      go_end0
      refine ⟨rfl, hT.out, ?_⟩
      have := hO.out
      simpa only [gcsB, List.append_assoc] using this
end Go.Proofs.YtaefjifcnoiplaaGreat.Gen
