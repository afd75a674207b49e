/-
  The program's writer of lists of items, marks and rows, makers. Condition: at most 500000000 bytes.
-/
import Derived.Test.YtaefjifcnoiplaaGreatKBw1
namespace Go.Proofs.YtaefjifcnoiplaaGreat.Gen
open Go.ChangeShapes Go.WideShapes Go.ChangeAt Go.RowKit Go.Joins Go.Deep Base
open Items (It)
set_option linter.unusedVariables false
set_option linter.unusedSimpArgs false
set_option maxRecDepth 100000 in
set_option maxHeartbeats 1000000 in
theorem writeItems_any (P : Nat -> Prop) (z : Nat) (A : Option Addr) (cap : Nat) (L : List It) (hl : L.length <= 1048576) (hR : ∀ y ∈ L, ItR y) (xs : List UInt8) (hx : xs.length + (itsB L).length <= 500000000) (w : World) (hA : Pt P w A L) (hW : Wr P z w xs) :
    Calls Tryz.prog 175 #[.pointer (some ⟨z, 0, none⟩), .slice A L.length cap, .func (.func 176) #[] #[]] w fun e w' => e = .returned (.tuple #[]) /\ Turn P w w' /\ Wr P z w' (xs ++ itsB L) := by
  have HA := hidP hA
  have HW := hidP hW
  have HR := hidP hR
  have Hx : Hid (xs.length + ((numI (L.length : Int)).length + (L.flatMap itB).length) <= 500000000) := by have h := hx; unfold itsB at h; rw [List.length_append] at h; exact hidP h
  clear hA hW hR hx
  go_enter Tryz.func175, Tryz.ntmps175
  go_wp2_with fail
  refine (numberI_any P z (L.length : Int) (by omega) xs (by have := Hx.out; omega) _ HW.out).mono ?_
  rintro e w0 ⟨rfl, t0, h0⟩
  have T0 := hidP t0
  have H0 := hidP h0
  clear t0 h0 HW
  go_wp2
  go_loopw [14] (fun i W => ∃ (n : Nat), i = .int .i64 (n : Int) /\ n <= L.length /\ Hid (Turn P w W) /\ Hid (Wr P z W (xs ++ numI (L.length : Int) ++ (L.take n).flatMap itB))) (fun i _ => L.length - (intOf i).toNat)
  case atStart => exact ⟨0, rfl, by omega, T0, by simpa using H0⟩
  case round =>
    obtain ⟨n, rfl, hn, hT, hO⟩ := hrel
    by_cases hlt : n < L.length
    . obtain ⟨b, o, rfl, hbs, hin⟩ : ∃ b o, A = some ⟨b, o, none⟩ /\ b < w.heap.size /\ In w b o L := by
        rcases HA.out.1 with h | h
        . subst h; simp at hlt
        . exact h
      have hPb : ∀ b' o', some (⟨b, o, none⟩ : Addr) = some ⟨b', o', none⟩ -> P b' := by
        rcases HA.out.2 with h | h
        . subst h; simp at hlt
        . exact h
      have c0 : wr.cell? ⟨b, o + n * 5, none⟩ = some (.int .i64 L[n].off) := (hin.turn hT.out (hPb b o rfl)).cell n hlt (f := 0) rfl
      have c1 : wr.cell? ⟨b, o + n * 5 + 1, none⟩ = some (.string L[n].key) := (hin.turn hT.out (hPb b o rfl)).cell n hlt (f := 1) rfl
      have c2 : wr.cell? ⟨b, o + n * 5 + 2, none⟩ = some (.string L[n].text) := (hin.turn hT.out (hPb b o rfl)).cell n hlt (f := 2) rfl
      have c3 : wr.cell? ⟨b, o + n * 5 + 3, none⟩ = some (.int .i64 L[n].who) := (hin.turn hT.out (hPb b o rfl)).cell n hlt (f := 3) rfl
      have c4 : wr.cell? ⟨b, o + n * 5 + 4, none⟩ = some (.int .i64 L[n].time) := (hin.turn hT.out (hPb b o rfl)).cell n hlt (f := 4) rfl
      have hi0 : (0 : Int) <= (n : Int) := by omega
      have hi1 : (n : Int) < (L.length : Int) := by omega
      have hRx := HR.out L[n] (List.getElem_mem hlt)
      have hto := hidP (flat_take itB hlt)
      have hle := flat_take_le itB L (n + 1)
      rw [hto.out, List.length_append] at hle
      have hbd : Hid ((xs ++ numI (L.length : Int) ++ (L.take n).flatMap itB).length + (itB L[n]).length <= 500000000) := by
        show _ <= _
        have := Hx.out
        simp only [List.length_append]
        omega
      clear hin hle
      generalize L[n] = x at *
      generalize (L.take n).flatMap itB = ys at *
      generalize xs ++ numI (L.length : Int) = zs at *
      have Hwr := hidP (hO.out.below (alloc0 (Below.refl _ wr) (.cells #[.int .i64 x.off, .string x.key, .string x.text, .int .i64 x.who, .int .i64 x.time] 151)))
      have hTa := hidP (hT.out.trans (Turn.of_below (alloc0 (Below.refl _ wr) (.cells #[.int .i64 x.off, .string x.key, .string x.text, .int .i64 x.who, .int .i64 x.time] 151)) hO.out.lt))
      clear hO
      go_wp2_with fail
      refine (item_any P z x hRx _ hbd.out _ Hwr.out).mono ?_
      rintro e w1 ⟨rfl, t1, h1⟩
      have HT1 := hidP (hTa.out.trans t1)
      rw [List.append_assoc, ← hto.out] at h1
      have H1 := hidP h1
      clear t1 h1 hT hTa Hwr
      go_wp2
      exact ⟨⟨n + 1, by go_num, by omega, HT1, H1⟩, by simp [intOf]; omega⟩
    . obtain rfl : n = L.length := by omega
      rw [List.take_length] at hO
      go_wp2
      go_end0
      refine ⟨rfl, hT.out, ?_⟩
      have := hO.out
      simpa only [itsB, List.append_assoc] using this
set_option maxRecDepth 100000 in
set_option maxHeartbeats 1000000 in
theorem writeMarks_any (P : Nat -> Prop) (z : Nat) (A : Option Addr) (cap : Nat) (L : List Mk) (hl : L.length <= 1048576) (hR : ∀ y ∈ L, MkR y) (xs : List UInt8) (hx : xs.length + (mksB L).length <= 500000000) (w : World) (hA : Pt P w A L) (hW : Wr P z w xs) :
    Calls Tryz.prog 177 #[.pointer (some ⟨z, 0, none⟩), .slice A L.length cap, .func (.func 178) #[] #[]] w fun e w' => e = .returned (.tuple #[]) /\ Turn P w w' /\ Wr P z w' (xs ++ mksB L) := by
  have HA := hidP hA
  have HW := hidP hW
  have HR := hidP hR
  have Hx : Hid (xs.length + ((numI (L.length : Int)).length + (L.flatMap mkB).length) <= 500000000) := by have h := hx; unfold mksB at h; rw [List.length_append] at h; exact hidP h
  clear hA hW hR hx
  go_enter Tryz.func177, Tryz.ntmps177
  go_wp2_with fail
  refine (numberI_any P z (L.length : Int) (by omega) xs (by have := Hx.out; omega) _ HW.out).mono ?_
  rintro e w0 ⟨rfl, t0, h0⟩
  have T0 := hidP t0
  have H0 := hidP h0
  clear t0 h0 HW
  go_wp2
  go_loopw [14] (fun i W => ∃ (n : Nat), i = .int .i64 (n : Int) /\ n <= L.length /\ Hid (Turn P w W) /\ Hid (Wr P z W (xs ++ numI (L.length : Int) ++ (L.take n).flatMap mkB))) (fun i _ => L.length - (intOf i).toNat)
  case atStart => exact ⟨0, rfl, by omega, T0, by simpa using H0⟩
  case round =>
    obtain ⟨n, rfl, hn, hT, hO⟩ := hrel
    by_cases hlt : n < L.length
    . obtain ⟨b, o, rfl, hbs, hin⟩ : ∃ b o, A = some ⟨b, o, none⟩ /\ b < w.heap.size /\ In w b o L := by
        rcases HA.out.1 with h | h
        . subst h; simp at hlt
        . exact h
      have hPb : ∀ b' o', some (⟨b, o, none⟩ : Addr) = some ⟨b', o', none⟩ -> P b' := by
        rcases HA.out.2 with h | h
        . subst h; simp at hlt
        . exact h
      have c0 : wr.cell? ⟨b, o + n * 2, none⟩ = some (.int .i64 L[n].seq) := (hin.turn hT.out (hPb b o rfl)).cell n hlt (f := 0) rfl
      have c1 : wr.cell? ⟨b, o + n * 2 + 1, none⟩ = some (.int .i64 L[n].off) := (hin.turn hT.out (hPb b o rfl)).cell n hlt (f := 1) rfl
      have hi0 : (0 : Int) <= (n : Int) := by omega
      have hi1 : (n : Int) < (L.length : Int) := by omega
      have hRx := HR.out L[n] (List.getElem_mem hlt)
      have hto := hidP (flat_take mkB hlt)
      have hle := flat_take_le mkB L (n + 1)
      rw [hto.out, List.length_append] at hle
      have hbd : Hid ((xs ++ numI (L.length : Int) ++ (L.take n).flatMap mkB).length + (mkB L[n]).length <= 500000000) := by
        show _ <= _
        have := Hx.out
        simp only [List.length_append]
        omega
      clear hin hle
      generalize L[n] = x at *
      generalize (L.take n).flatMap mkB = ys at *
      generalize xs ++ numI (L.length : Int) = zs at *
      have Hwr := hidP (hO.out.below (alloc0 (Below.refl _ wr) (.cells #[.int .i64 x.seq, .int .i64 x.off] 157)))
      have hTa := hidP (hT.out.trans (Turn.of_below (alloc0 (Below.refl _ wr) (.cells #[.int .i64 x.seq, .int .i64 x.off] 157)) hO.out.lt))
      clear hO
      go_wp2_with fail
      refine (mark_any P z x hRx _ hbd.out _ Hwr.out).mono ?_
      rintro e w1 ⟨rfl, t1, h1⟩
      have HT1 := hidP (hTa.out.trans t1)
      rw [List.append_assoc, ← hto.out] at h1
      have H1 := hidP h1
      clear t1 h1 hT hTa Hwr
      go_wp2
      exact ⟨⟨n + 1, by go_num, by omega, HT1, H1⟩, by simp [intOf]; omega⟩
    . obtain rfl : n = L.length := by omega
      rw [List.take_length] at hO
      go_wp2
      go_end0
      refine ⟨rfl, hT.out, ?_⟩
      have := hO.out
      simpa only [mksB, List.append_assoc] using this
set_option maxRecDepth 100000 in
set_option maxHeartbeats 1000000 in
theorem row_any (P : Nat -> Prop) (z : Nat) (x : RC) (hR : RcR x) (xs : List UInt8) (hx : xs.length + (rcB x).length <= 500000000) (w : World) (hN : Pt P w x.A x.its) (hW : Wr P z w xs) :
    Calls Tryz.prog 154 #[.pointer (some ⟨z, 0, none⟩), .agg #[.int .i64 x.start, .int .i64 x.next, .slice x.A x.its.length x.cap]] w fun e w' => e = .returned (.tuple #[]) /\ Turn P w w' /\ Wr P z w' (xs ++ rcB x) := by
  have HN := hidP hN
  clear hN
  have H0 := hidP (hW.keep (.cells #[.int .i64 x.start, .int .i64 x.next, .slice x.A x.its.length x.cap] 142))
  have T0 : Hid (Turn P w (w.alloc (.cells #[.int .i64 x.start, .int .i64 x.next, .slice x.A x.its.length x.cap] 142))) := hidP (Turn.of_below (alloc0 (Below.refl _ w) _) hW.lt)
  have p0 := Blk.new w 142 #[.int .i64 x.start, .int .i64 x.next, .slice x.A x.its.length x.cap]
  have Hp0 := hidP p0
  have Hx := hidP hx
  clear hW p0 hx
  go_enter Tryz.func154, Tryz.ntmps154
  have hat := newL (w.alloc (.cells #[.int .i64 x.start, .int .i64 x.next, .slice x.A x.its.length x.cap] 142)) ([x.start, x.next] : List Int) #[.int .i64 x.start, .int .i64 x.next] 3 rfl
  have hwr := H0.out.keep (.cells #[.int .i64 x.start, .int .i64 x.next] 3)
  have pz := Hp0.out.alloc (.cells #[.int .i64 x.start, .int .i64 x.next] 3)
  have tk : Turn (fun k => P k ∨ k = w.heap.size) (w.alloc (.cells #[.int .i64 x.start, .int .i64 x.next, .slice x.A x.its.length x.cap] 142)) ((w.alloc (.cells #[.int .i64 x.start, .int .i64 x.next, .slice x.A x.its.length x.cap] 142)).alloc (.cells #[.int .i64 x.start, .int .i64 x.next] 3)) := Turn.of_below (alloc0 (Below.refl _ _) _) H0.out.lt
  simp only [World.size_alloc] at hat hwr
  have Hat := hidP hat
  have Hwr := hidP hwr
  have Hpz := hidP pz
  have Htk := hidP tk
  clear hat hwr pz tk
  go_wp2_with fail
  refine (numbers_any (fun k => (P k ∨ k = w.heap.size) ∨ k = w.heap.size + 1) z (some ⟨w.heap.size + 1, 0, none⟩) 2 [x.start, x.next] (by simp) (by have := hR.start; have := hR.next; simp; omega) _ (by have h1 := Hx.out; simp only [rcB, List.length_append] at h1 ⊢; have := numsB_le [x.start, x.next]; simp only [List.length_cons, List.length_nil] at this ⊢; omega) _ Hat.out (.inr fun k o e => by cases e; exact .inr rfl) Hwr.out).mono ?_
  rintro e w1 ⟨rfl, t1, h1⟩
  have Hp1 := hidP (Hpz.out.turn t1 (.inl (.inr rfl)))
  have T1 := hidP (T0.out.trans ((Htk.out.trans (t1.mono (fun k hk => .inl hk))).mono (fun k hk => .inl hk)))
  have H1 := hidP (h1.mono (Q := (fun k => P k ∨ k = w.heap.size)) (fun k hk => .inl hk))
  clear Hat Hwr Hpz Htk t1 h1 H0 T0 Hp0
  have d0 : w1.cell? ⟨w.heap.size, 0, none⟩ = some (.int .i64 x.start) := Hp1.out.cell (i := 0) rfl
  have d1 : w1.cell? ⟨w.heap.size, 1, none⟩ = some (.int .i64 x.next) := Hp1.out.cell (i := 1) rfl
  have d2 : w1.cell? ⟨w.heap.size, 2, none⟩ = some (.slice x.A x.its.length x.cap) := Hp1.out.cell (i := 2) rfl
  have qb := Hp1.out.lt
  go_wp2_with fail
  refine (writeItems_any (fun k => P k ∨ k = w.heap.size) z x.A x.cap x.its (by have := hR.len; omega) hR.its _ (by have h1 := Hx.out; simp only [rcB, List.length_append] at h1 ⊢; have := numsB_le [x.start, x.next]; simp only [List.length_cons, List.length_nil] at this ⊢; omega) _ ((HN.out.turn T1.out).mono (fun k hk => .inl hk)) H1.out).mono ?_
  rintro e w2 ⟨rfl, t2, h2⟩
  have Hp2 := hidP (Hp1.out.turn t2 (.inr rfl))
  have T2 := hidP (T1.out.trans (t2.mono (fun k hk => .inl hk)))
  have H2 := hidP h2
  clear t2 h2 H1 T1 Hp1 d0 d1 d2 qb
  go_wp2
  go_end0
  refine ⟨rfl, T2.out, ?_⟩
  have := H2.out.mono (Q := P) (fun k hk => .inl hk)
  simpa only [rcB, txtB, List.append_assoc] using this
set_option maxRecDepth 100000 in
set_option maxHeartbeats 1000000 in
theorem maker_any (P : Nat -> Prop) (z : Nat) (x : MC) (hR : McR x) (xs : List UInt8) (hx : xs.length + (mcB x).length <= 500000000) (w : World) (hN : Pt P w x.A x.ms) (hW : Wr P z w xs) :
    Calls Tryz.prog 156 #[.pointer (some ⟨z, 0, none⟩), .agg #[.int .i64 x.row, .int .i64 x.who, .int .i64 x.epoch, .int .i64 x.last, .slice x.A x.ms.length x.cap]] w fun e w' => e = .returned (.tuple #[]) /\ Turn P w w' /\ Wr P z w' (xs ++ mcB x) := by
  have HN := hidP hN
  obtain ⟨hl0, hl1⟩ := hR.last
  clear hN
  have H0 := hidP (hW.keep (.cells #[.int .i64 x.row, .int .i64 x.who, .int .i64 x.epoch, .int .i64 x.last, .slice x.A x.ms.length x.cap] 155))
  have T0 : Hid (Turn P w (w.alloc (.cells #[.int .i64 x.row, .int .i64 x.who, .int .i64 x.epoch, .int .i64 x.last, .slice x.A x.ms.length x.cap] 155))) := hidP (Turn.of_below (alloc0 (Below.refl _ w) _) hW.lt)
  have p0 := Blk.new w 155 #[.int .i64 x.row, .int .i64 x.who, .int .i64 x.epoch, .int .i64 x.last, .slice x.A x.ms.length x.cap]
  have Hp0 := hidP p0
  have Hx := hidP hx
  clear hW p0 hx
  go_enter Tryz.func156, Tryz.ntmps156
  have hat := newL (w.alloc (.cells #[.int .i64 x.row, .int .i64 x.who, .int .i64 x.epoch, .int .i64 x.last, .slice x.A x.ms.length x.cap] 155)) ([x.row, x.who, x.epoch, x.last + 1] : List Int) #[.int .i64 x.row, .int .i64 x.who, .int .i64 x.epoch, .int .i64 (x.last + 1)] 3 rfl
  have hwr := H0.out.keep (.cells #[.int .i64 x.row, .int .i64 x.who, .int .i64 x.epoch, .int .i64 (x.last + 1)] 3)
  have pz := Hp0.out.alloc (.cells #[.int .i64 x.row, .int .i64 x.who, .int .i64 x.epoch, .int .i64 (x.last + 1)] 3)
  have tk : Turn (fun k => P k ∨ k = w.heap.size) (w.alloc (.cells #[.int .i64 x.row, .int .i64 x.who, .int .i64 x.epoch, .int .i64 x.last, .slice x.A x.ms.length x.cap] 155)) ((w.alloc (.cells #[.int .i64 x.row, .int .i64 x.who, .int .i64 x.epoch, .int .i64 x.last, .slice x.A x.ms.length x.cap] 155)).alloc (.cells #[.int .i64 x.row, .int .i64 x.who, .int .i64 x.epoch, .int .i64 (x.last + 1)] 3)) := Turn.of_below (alloc0 (Below.refl _ _) _) H0.out.lt
  simp only [World.size_alloc] at hat hwr
  have Hat := hidP hat
  have Hwr := hidP hwr
  have Hpz := hidP pz
  have Htk := hidP tk
  clear hat hwr pz tk
  go_wp2_with fail
  refine (numbers_any (fun k => (P k ∨ k = w.heap.size) ∨ k = w.heap.size + 1) z (some ⟨w.heap.size + 1, 0, none⟩) 4 [x.row, x.who, x.epoch, x.last + 1] (by simp) (by have := hR.row; have := hR.who; have := hR.epoch; have := hR.last; simp; omega) _ (by have h1 := Hx.out; simp only [mcB, List.length_append] at h1 ⊢; have := numsB_le [x.row, x.who, x.epoch, x.last + 1]; simp only [List.length_cons, List.length_nil] at this ⊢; omega) _ Hat.out (.inr fun k o e => by cases e; exact .inr rfl) Hwr.out).mono ?_
  rintro e w1 ⟨rfl, t1, h1⟩
  have Hp1 := hidP (Hpz.out.turn t1 (.inl (.inr rfl)))
  have T1 := hidP (T0.out.trans ((Htk.out.trans (t1.mono (fun k hk => .inl hk))).mono (fun k hk => .inl hk)))
  have H1 := hidP (h1.mono (Q := (fun k => P k ∨ k = w.heap.size)) (fun k hk => .inl hk))
  clear Hat Hwr Hpz Htk t1 h1 H0 T0 Hp0
  have d0 : w1.cell? ⟨w.heap.size, 0, none⟩ = some (.int .i64 x.row) := Hp1.out.cell (i := 0) rfl
  have d1 : w1.cell? ⟨w.heap.size, 1, none⟩ = some (.int .i64 x.who) := Hp1.out.cell (i := 1) rfl
  have d2 : w1.cell? ⟨w.heap.size, 2, none⟩ = some (.int .i64 x.epoch) := Hp1.out.cell (i := 2) rfl
  have d3 : w1.cell? ⟨w.heap.size, 3, none⟩ = some (.int .i64 x.last) := Hp1.out.cell (i := 3) rfl
  have d4 : w1.cell? ⟨w.heap.size, 4, none⟩ = some (.slice x.A x.ms.length x.cap) := Hp1.out.cell (i := 4) rfl
  have qb := Hp1.out.lt
  go_wp2_with fail
  refine (writeMarks_any (fun k => P k ∨ k = w.heap.size) z x.A x.cap x.ms (by have := hR.len; omega) hR.ms _ (by have h1 := Hx.out; simp only [mcB, List.length_append] at h1 ⊢; have := numsB_le [x.row, x.who, x.epoch, x.last + 1]; simp only [List.length_cons, List.length_nil] at this ⊢; omega) _ ((HN.out.turn T1.out).mono (fun k hk => .inl hk)) H1.out).mono ?_
  rintro e w2 ⟨rfl, t2, h2⟩
  have Hp2 := hidP (Hp1.out.turn t2 (.inr rfl))
  have T2 := hidP (T1.out.trans (t2.mono (fun k hk => .inl hk)))
  have H2 := hidP h2
  clear t2 h2 H1 T1 Hp1 d0 d1 d2 d3 d4 qb
  go_wp2
  go_end0
  refine ⟨rfl, T2.out, ?_⟩
  have := H2.out.mono (Q := P) (fun k hk => .inl hk)
  simpa only [mcB, txtB, List.append_assoc] using this
set_option maxRecDepth 100000 in
set_option maxHeartbeats 1000000 in
theorem writeRows_any (P : Nat -> Prop) (z : Nat) (A : Option Addr) (cap : Nat) (L : List RC) (hl : L.length <= 1048576) (hR : ∀ y ∈ L, RcR y) (xs : List UInt8) (hx : xs.length + (rcsB L).length <= 500000000) (w : World) (hA : Pt P w A L) (hN : ∀ y ∈ L, Pt P w y.A y.its) (hW : Wr P z w xs) :
    Calls Tryz.prog 153 #[.pointer (some ⟨z, 0, none⟩), .slice A L.length cap, .func (.func 154) #[] #[]] w fun e w' => e = .returned (.tuple #[]) /\ Turn P w w' /\ Wr P z w' (xs ++ rcsB L) := by
  have HA := hidP hA
  have HW := hidP hW
  have HR := hidP hR
  have HN := hidP hN
  have Hx : Hid (xs.length + ((numI (L.length : Int)).length + (L.flatMap rcB).length) <= 500000000) := by have h := hx; unfold rcsB at h; rw [List.length_append] at h; exact hidP h
  clear hA hW hR hx hN
  go_enter Tryz.func153, Tryz.ntmps153
  go_wp2_with fail
  refine (numberI_any P z (L.length : Int) (by omega) xs (by have := Hx.out; omega) _ HW.out).mono ?_
  rintro e w0 ⟨rfl, t0, h0⟩
  have T0 := hidP t0
  have H0 := hidP h0
  clear t0 h0 HW
  go_wp2
  go_loopw [14] (fun i W => ∃ (n : Nat), i = .int .i64 (n : Int) /\ n <= L.length /\ Hid (Turn P w W) /\ Hid (Wr P z W (xs ++ numI (L.length : Int) ++ (L.take n).flatMap rcB))) (fun i _ => L.length - (intOf i).toNat)
  case atStart => exact ⟨0, rfl, by omega, T0, by simpa using H0⟩
  case round =>
    obtain ⟨n, rfl, hn, hT, hO⟩ := hrel
    by_cases hlt : n < L.length
    . obtain ⟨b, o, rfl, hbs, hin⟩ : ∃ b o, A = some ⟨b, o, none⟩ /\ b < w.heap.size /\ In w b o L := by
        rcases HA.out.1 with h | h
        . subst h; simp at hlt
        . exact h
      have hPb : ∀ b' o', some (⟨b, o, none⟩ : Addr) = some ⟨b', o', none⟩ -> P b' := by
        rcases HA.out.2 with h | h
        . subst h; simp at hlt
        . exact h
      have c0 : wr.cell? ⟨b, o + n * 3, none⟩ = some (.int .i64 L[n].start) := (hin.turn hT.out (hPb b o rfl)).cell n hlt (f := 0) rfl
      have c1 : wr.cell? ⟨b, o + n * 3 + 1, none⟩ = some (.int .i64 L[n].next) := (hin.turn hT.out (hPb b o rfl)).cell n hlt (f := 1) rfl
      have c2 : wr.cell? ⟨b, o + n * 3 + 2, none⟩ = some (.slice L[n].A L[n].its.length L[n].cap) := (hin.turn hT.out (hPb b o rfl)).cell n hlt (f := 2) rfl
      have hi0 : (0 : Int) <= (n : Int) := by omega
      have hi1 : (n : Int) < (L.length : Int) := by omega
      have hRx := HR.out L[n] (List.getElem_mem hlt)
      have hNx := HN.out L[n] (List.getElem_mem hlt)
      have hto := hidP (flat_take rcB hlt)
      have hle := flat_take_le rcB L (n + 1)
      rw [hto.out, List.length_append] at hle
      have hbd : Hid ((xs ++ numI (L.length : Int) ++ (L.take n).flatMap rcB).length + (rcB L[n]).length <= 500000000) := by
        show _ <= _
        have := Hx.out
        simp only [List.length_append]
        omega
      clear hin hle
      generalize L[n] = x at *
      generalize (L.take n).flatMap rcB = ys at *
      generalize xs ++ numI (L.length : Int) = zs at *
      have Hwr := hidP (hO.out.below (alloc0 (Below.refl _ wr) (.cells #[.int .i64 x.start, .int .i64 x.next, .slice x.A x.its.length x.cap] 142)))
      have hTa := hidP (hT.out.trans (Turn.of_below (alloc0 (Below.refl _ wr) (.cells #[.int .i64 x.start, .int .i64 x.next, .slice x.A x.its.length x.cap] 142)) hO.out.lt))
      clear hO
      go_wp2_with fail
      refine (row_any P z x hRx _ hbd.out _ (hNx.turn hTa.out) Hwr.out).mono ?_
      rintro e w1 ⟨rfl, t1, h1⟩
      have HT1 := hidP (hTa.out.trans t1)
      rw [List.append_assoc, ← hto.out] at h1
      have H1 := hidP h1
      clear t1 h1 hT hTa Hwr
      go_wp2
      exact ⟨⟨n + 1, by go_num, by omega, HT1, H1⟩, by simp [intOf]; omega⟩
    . obtain rfl : n = L.length := by omega
      rw [List.take_length] at hO
      go_wp2
      go_end0
      refine ⟨rfl, hT.out, ?_⟩
      have := hO.out
      simpa only [rcsB, List.append_assoc] using this
set_option maxRecDepth 100000 in
set_option maxHeartbeats 1000000 in
theorem writeMakers_any (P : Nat -> Prop) (z : Nat) (A : Option Addr) (cap : Nat) (L : List MC) (hl : L.length <= 1048576) (hR : ∀ y ∈ L, McR y) (xs : List UInt8) (hx : xs.length + (mcsB L).length <= 500000000) (w : World) (hA : Pt P w A L) (hN : ∀ y ∈ L, Pt P w y.A y.ms) (hW : Wr P z w xs) :
    Calls Tryz.prog 155 #[.pointer (some ⟨z, 0, none⟩), .slice A L.length cap, .func (.func 156) #[] #[]] w fun e w' => e = .returned (.tuple #[]) /\ Turn P w w' /\ Wr P z w' (xs ++ mcsB L) := by
  have HA := hidP hA
  have HW := hidP hW
  have HR := hidP hR
  have HN := hidP hN
  have Hx : Hid (xs.length + ((numI (L.length : Int)).length + (L.flatMap mcB).length) <= 500000000) := by have h := hx; unfold mcsB at h; rw [List.length_append] at h; exact hidP h
  clear hA hW hR hx hN
  go_enter Tryz.func155, Tryz.ntmps155
  go_wp2_with fail
  refine (numberI_any P z (L.length : Int) (by omega) xs (by have := Hx.out; omega) _ HW.out).mono ?_
  rintro e w0 ⟨rfl, t0, h0⟩
  have T0 := hidP t0
  have H0 := hidP h0
  clear t0 h0 HW
  go_wp2
  go_loopw [14] (fun i W => ∃ (n : Nat), i = .int .i64 (n : Int) /\ n <= L.length /\ Hid (Turn P w W) /\ Hid (Wr P z W (xs ++ numI (L.length : Int) ++ (L.take n).flatMap mcB))) (fun i _ => L.length - (intOf i).toNat)
  case atStart => exact ⟨0, rfl, by omega, T0, by simpa using H0⟩
  case round =>
    obtain ⟨n, rfl, hn, hT, hO⟩ := hrel
    by_cases hlt : n < L.length
    . obtain ⟨b, o, rfl, hbs, hin⟩ : ∃ b o, A = some ⟨b, o, none⟩ /\ b < w.heap.size /\ In w b o L := by
        rcases HA.out.1 with h | h
        . subst h; simp at hlt
        . exact h
      have hPb : ∀ b' o', some (⟨b, o, none⟩ : Addr) = some ⟨b', o', none⟩ -> P b' := by
        rcases HA.out.2 with h | h
        . subst h; simp at hlt
        . exact h
      have c0 : wr.cell? ⟨b, o + n * 5, none⟩ = some (.int .i64 L[n].row) := (hin.turn hT.out (hPb b o rfl)).cell n hlt (f := 0) rfl
      have c1 : wr.cell? ⟨b, o + n * 5 + 1, none⟩ = some (.int .i64 L[n].who) := (hin.turn hT.out (hPb b o rfl)).cell n hlt (f := 1) rfl
      have c2 : wr.cell? ⟨b, o + n * 5 + 2, none⟩ = some (.int .i64 L[n].epoch) := (hin.turn hT.out (hPb b o rfl)).cell n hlt (f := 2) rfl
      have c3 : wr.cell? ⟨b, o + n * 5 + 3, none⟩ = some (.int .i64 L[n].last) := (hin.turn hT.out (hPb b o rfl)).cell n hlt (f := 3) rfl
      have c4 : wr.cell? ⟨b, o + n * 5 + 4, none⟩ = some (.slice L[n].A L[n].ms.length L[n].cap) := (hin.turn hT.out (hPb b o rfl)).cell n hlt (f := 4) rfl
      have hi0 : (0 : Int) <= (n : Int) := by omega
      have hi1 : (n : Int) < (L.length : Int) := by omega
      have hRx := HR.out L[n] (List.getElem_mem hlt)
      have hNx := HN.out L[n] (List.getElem_mem hlt)
      have hto := hidP (flat_take mcB hlt)
      have hle := flat_take_le mcB L (n + 1)
      rw [hto.out, List.length_append] at hle
      have hbd : Hid ((xs ++ numI (L.length : Int) ++ (L.take n).flatMap mcB).length + (mcB L[n]).length <= 500000000) := by
        show _ <= _
        have := Hx.out
        simp only [List.length_append]
        omega
      clear hin hle
      generalize L[n] = x at *
      generalize (L.take n).flatMap mcB = ys at *
      generalize xs ++ numI (L.length : Int) = zs at *
      have Hwr := hidP (hO.out.below (alloc0 (Below.refl _ wr) (.cells #[.int .i64 x.row, .int .i64 x.who, .int .i64 x.epoch, .int .i64 x.last, .slice x.A x.ms.length x.cap] 155)))
      have hTa := hidP (hT.out.trans (Turn.of_below (alloc0 (Below.refl _ wr) (.cells #[.int .i64 x.row, .int .i64 x.who, .int .i64 x.epoch, .int .i64 x.last, .slice x.A x.ms.length x.cap] 155)) hO.out.lt))
      clear hO
      go_wp2_with fail
      refine (maker_any P z x hRx _ hbd.out _ (hNx.turn hTa.out) Hwr.out).mono ?_
      rintro e w1 ⟨rfl, t1, h1⟩
      have HT1 := hidP (hTa.out.trans t1)
      rw [List.append_assoc, ← hto.out] at h1
      have H1 := hidP h1
      clear t1 h1 hT hTa Hwr
      go_wp2
      exact ⟨⟨n + 1, by go_num, by omega, HT1, H1⟩, by simp [intOf]; omega⟩
    . obtain rfl : n = L.length := by omega
      rw [List.take_length] at hO
      go_wp2
      go_end0
      refine ⟨rfl, hT.out, ?_⟩
      have := hO.out
      simpa only [mcsB, List.append_assoc] using this
end Go.Proofs.YtaefjifcnoiplaaGreat.Gen
