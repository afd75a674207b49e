/-
  The program's writer of entries, of a note's body, and of its frame. Condition: at most 1800000 bytes.
-/
import Derived.Test.YtaefjifcnoiplaaGreatWpt
import Derived.Test.YtaefjifcnoiplaaGreatCmdB
import Derived.Test.YtaefjifcnoiplaaGreatAnsList
import Derived.Test.YtaefjifcnoiplaaGreatSumB
namespace Go.Proofs.YtaefjifcnoiplaaGreat.Gen
open Go.ChangeShapes Go.WideShapes Go.ChangeAt Go.RowKit Go.Joins Go.Deep Base
set_option linter.unusedVariables false
set_option linter.unusedSimpArgs false
def enB (x : En) : List UInt8 := numI x.term ++ cmB x.who x.seq x.op x.a x.b x.c x.key x.text
def ensB (l : List En) : List UInt8 := numI (l.length : Int) ++ l.flatMap enB
def bodyB (kind term vote prev : Int) (l : List En) (snap : ByteArray) : List UInt8 := numsB [kind, term, vote + 1, prev] ++ (ensB l ++ txtB snap)
def frameB (L : List UInt8) : List UInt8 := numB L.length ++ (L ++ sumB 4 (sumN L))
structure EnR (x : En) : Prop where
  term : 0 <= x.term /\ x.term <= 2147483647
  cm : CmR x.who x.seq x.op x.a x.b x.c x.key x.text
theorem enB_le {x : En} (h : EnR x) : (enB x).length <= 105 := by
  have h1 := numI_le x.term
  have h2 := cmB_le h.cm
  simp only [enB, List.length_append]
  omega
theorem ensB_le {l : List En} (h : ∀ x ∈ l, EnR x) : (ensB l).length <= 5 + 105 * l.length := by
  have h1 := numI_le (l.length : Int)
  have h2 := flat_le enB 105 l (fun x hx => enB_le (h x hx))
  simp only [ensB, List.length_append]
  omega
set_option maxRecDepth 100000 in
set_option maxHeartbeats 1000000 in
theorem entry_any (P : Nat -> Prop) (z : Nat) (x : En) (hR : EnR x) (xs : List UInt8) (hx : xs.length <= 1800000) (w : World) (hW : Wr P z w xs) :
    Calls Tryz.prog 120 #[.pointer (some ⟨z, 0, none⟩), .agg #[.int .i64 x.term, .int .i64 x.who, .int .i64 x.seq, .int .i64 x.op, .int .i64 x.a, .int .i64 x.b, .int .i64 x.c, .string x.key, .string x.text]] w fun e w' => e = .returned (.tuple #[]) /\ Turn P w w' /\ Wr P z w' (xs ++ enB x) := by
  have H0 := hidP (hW.keep (.cells #[.int .i64 x.term, .int .i64 x.who, .int .i64 x.seq, .int .i64 x.op, .int .i64 x.a, .int .i64 x.b, .int .i64 x.c, .string x.key, .string x.text] 89))
  have T0 : Hid (Turn P w (w.alloc (.cells #[.int .i64 x.term, .int .i64 x.who, .int .i64 x.seq, .int .i64 x.op, .int .i64 x.a, .int .i64 x.b, .int .i64 x.c, .string x.key, .string x.text] 89))) := hidP (Turn.of_below (alloc0 (Below.refl _ w) _) hW.lt)
  have p0 := Blk.new w 89 #[.int .i64 x.term, .int .i64 x.who, .int .i64 x.seq, .int .i64 x.op, .int .i64 x.a, .int .i64 x.b, .int .i64 x.c, .string x.key, .string x.text]
  have Hp0 := hidP p0
  have hnl := numI_le x.term
  clear hW p0
  go_enter Tryz.func120, Tryz.ntmps120
  go_wp2_with fail
  refine (numberI_any (fun k => P k ∨ k = w.heap.size) z (x.term) (hR.term) _ (by omega) _ H0.out).mono ?_
  rintro e w1 ⟨rfl, t1, h1⟩
  have Hp1 := hidP (Hp0.out.turn t1 (.inr rfl))
  have T1 := hidP (T0.out.trans (t1.mono (fun k hk => .inl hk)))
  have H1 := hidP h1
  clear t1 h1 H0 T0 Hp0
  have d0 : w1.cell? ⟨w.heap.size, 0, none⟩ = some (.int .i64 x.term) := Hp1.out.cell (i := 0) rfl
  have d1 : w1.cell? ⟨w.heap.size, 1, none⟩ = some (.int .i64 x.who) := Hp1.out.cell (i := 1) rfl
  have d2 : w1.cell? ⟨w.heap.size, 2, none⟩ = some (.int .i64 x.seq) := Hp1.out.cell (i := 2) rfl
  have d3 : w1.cell? ⟨w.heap.size, 3, none⟩ = some (.int .i64 x.op) := Hp1.out.cell (i := 3) rfl
  have d4 : w1.cell? ⟨w.heap.size, 4, none⟩ = some (.int .i64 x.a) := Hp1.out.cell (i := 4) rfl
  have d5 : w1.cell? ⟨w.heap.size, 5, none⟩ = some (.int .i64 x.b) := Hp1.out.cell (i := 5) rfl
  have d6 : w1.cell? ⟨w.heap.size, 6, none⟩ = some (.int .i64 x.c) := Hp1.out.cell (i := 6) rfl
  have d7 : w1.cell? ⟨w.heap.size, 7, none⟩ = some (.string x.key) := Hp1.out.cell (i := 7) rfl
  have d8 : w1.cell? ⟨w.heap.size, 8, none⟩ = some (.string x.text) := Hp1.out.cell (i := 8) rfl
  have qb := Hp1.out.lt
  go_wp2_with fail
  refine (cmd_any (fun k => P k ∨ k = w.heap.size) z x.who x.seq x.op x.a x.b x.c x.key x.text hR.cm _ (by rw [List.length_append]; omega) _ H1.out).mono ?_
  rintro e w2 ⟨rfl, t2, h2⟩
  have T2 := hidP (T1.out.trans (t2.mono (fun k hk => .inl hk)))
  have H2 := hidP h2
  clear t2 h2 H1 T1 Hp1 d0 d1 d2 d3 d4 d5 d6 d7 d8 qb
  go_wp2
  go_end0
  refine ⟨rfl, T2.out, ?_⟩
  have := H2.out.mono (Q := P) (fun k hk => .inl hk)
  simpa only [enB, List.append_assoc] using this
set_option maxRecDepth 100000 in
set_option maxHeartbeats 1000000 in
theorem writeEntries_any (P : Nat -> Prop) (z : Nat) (A : Option Addr) (cap : Nat) (L : List En) (hl : L.length <= 1000) (hR : ∀ y ∈ L, EnR y) (xs : List UInt8) (hx : xs.length <= 1000000) (w : World) (hA : Pt P w A L) (hW : Wr P z w xs) :
    Calls Tryz.prog 119 #[.pointer (some ⟨z, 0, none⟩), .slice A L.length cap, .func (.func 120) #[] #[]] w fun e w' => e = .returned (.tuple #[]) /\ Turn P w w' /\ Wr P z w' (xs ++ ensB L) := by
  have HA := hidP hA
  have HW := hidP hW
  have HR := hidP hR
  have hnl := numI_le (L.length : Int)
  have Hfl := hidP (flat_le enB 105 L (fun x hx => enB_le (hR x hx)))
  clear hA hW hR
  go_enter Tryz.func119, Tryz.ntmps119
  go_wp2_with fail
  refine (numberI_any P z (L.length : Int) (by omega) xs (by omega) _ HW.out).mono ?_
  rintro e w0 ⟨rfl, t0, h0⟩
  have T0 := hidP t0
  have H0 := hidP h0
  clear t0 h0 HW
  go_wp2
  go_loopw [14] (fun i W => ∃ (n : Nat), i = .int .i64 (n : Int) /\ n <= L.length /\ Hid (Turn P w W) /\ Hid (Wr P z W (xs ++ numI (L.length : Int) ++ (L.take n).flatMap enB))) (fun i _ => L.length - (intOf i).toNat)
  case atStart => exact ⟨0, rfl, by omega, T0, by simpa using H0⟩
  case round =>
    obtain ⟨n, rfl, hn, hT, hO⟩ := hrel
    by_cases hlt : n < L.length
    . obtain ⟨b, o, rfl, hbs, hin⟩ : ∃ b o, A = some ⟨b, o, none⟩ /\ b < w.heap.size /\ In w b o L := by
        rcases HA.out.1 with h | h
        . subst h; simp at hlt
        . exact h
      have hPb : ∀ b' o', some (⟨b, o, none⟩ : Addr) = some ⟨b', o', none⟩ -> P b' := by
        rcases HA.out.2 with h | h
        . subst h; simp at hlt
        . exact h
      obtain ⟨c0, c1, c2, c3, c4, c5, c6, c7, c8⟩ := (hin.turn hT.out (hPb b o rfl)).getEn n hlt
      have hi0 : (0 : Int) <= (n : Int) := by omega
      have hi1 : (n : Int) < (L.length : Int) := by omega
      have hRx := HR.out L[n] (List.getElem_mem hlt)
      have hto := hidP (flat_take enB hlt)
      have hle := flat_take_le enB L n
      have hbd : Hid ((xs ++ numI (L.length : Int) ++ (L.take n).flatMap enB).length <= 1800000) := by
        show _ <= _
        have := Hfl.out
        simp only [List.length_append]
        omega
      clear hin hle
      generalize L[n] = x at *
      generalize (L.take n).flatMap enB = ys at *
      generalize xs ++ numI (L.length : Int) = zs at *
      have Hwr := hidP (hO.out.below (alloc0 (Below.refl _ wr) (.cells #[.int .i64 x.term, .int .i64 x.who, .int .i64 x.seq, .int .i64 x.op, .int .i64 x.a, .int .i64 x.b, .int .i64 x.c, .string x.key, .string x.text] 89)))
      have hTa := hidP (hT.out.trans (Turn.of_below (alloc0 (Below.refl _ wr) (.cells #[.int .i64 x.term, .int .i64 x.who, .int .i64 x.seq, .int .i64 x.op, .int .i64 x.a, .int .i64 x.b, .int .i64 x.c, .string x.key, .string x.text] 89)) hO.out.lt))
      clear hO
      go_wp2_with fail
      refine (entry_any P z x hRx _ hbd.out _ Hwr.out).mono ?_
      rintro e w1 ⟨rfl, t1, h1⟩
      have HT1 := hidP (hTa.out.trans t1)
      rw [List.append_assoc, ← hto.out] at h1
      have H1 := hidP h1
      clear t1 h1 hT hTa Hwr
      go_wp2
      exact ⟨⟨n + 1, by go_num, by omega, HT1, H1⟩, by simp [intOf]; omega⟩
    . obtain rfl : n = L.length := by omega
      rw [List.take_length] at hO
      go_wp2
      go_end0
      refine ⟨rfl, hT.out, ?_⟩
      have := hO.out
      simpa only [ensB, List.append_assoc] using this
set_option maxRecDepth 100000 in
set_option maxHeartbeats 1000000 in
theorem wnote_any (P : Nat -> Prop) (z : Nat) (kind term vote prev : Int) (snap : ByteArray) (A : Option Addr) (cap : Nat) (l : List En) (hk : 0 <= kind /\ kind <= 3) (ht : 0 <= term /\ term <= 300) (hv : -1 <= vote /\ vote <= 4) (hp : 0 <= prev /\ prev <= 300) (hs : snap.size <= 30000) (hl : l.length <= 40) (hR : ∀ y ∈ l, EnR y) (w : World) (hA : Pt P w A l) (hW : Wr P z w []) :
    Calls Tryz.prog 56 #[.pointer (some ⟨z, 0, none⟩), .agg #[.int .i64 kind, .int .i64 term, .int .i64 vote, .int .i64 prev, .slice A l.length cap, .string snap]] w fun e w' => e = .returned (.tuple #[]) /\ Turn P w w' /\ Wr P z w' (bodyB kind term vote prev l snap) := by
  have H0 := hidP (hW.keep (.cells #[.int .i64 kind, .int .i64 term, .int .i64 vote, .int .i64 prev, .slice A l.length cap, .string snap] 67))
  have T0 : Hid (Turn P w (w.alloc (.cells #[.int .i64 kind, .int .i64 term, .int .i64 vote, .int .i64 prev, .slice A l.length cap, .string snap] 67))) := hidP (Turn.of_below (alloc0 (Below.refl _ w) _) hW.lt)
  have p0 := Blk.new w 67 #[.int .i64 kind, .int .i64 term, .int .i64 vote, .int .i64 prev, .slice A l.length cap, .string snap]
  have Hp0 := hidP p0
  have HA := hidP hA
  have HR := hidP hR
  have hn4 := numsB_le [kind, term, vote + 1, prev]
  simp only [List.length_cons, List.length_nil] at hn4
  have hle := ensB_le hR
  clear hW p0 hA hR
  go_enter Tryz.func56, Tryz.ntmps56
  have hat := newL (w.alloc (.cells #[.int .i64 kind, .int .i64 term, .int .i64 vote, .int .i64 prev, .slice A l.length cap, .string snap] 67)) ([kind, term, vote + 1, prev] : List Int) #[.int .i64 kind, .int .i64 term, .int .i64 (vote + 1), .int .i64 prev] 3 rfl
  have hwr := H0.out.keep (.cells #[.int .i64 kind, .int .i64 term, .int .i64 (vote + 1), .int .i64 prev] 3)
  have pz := Hp0.out.alloc (.cells #[.int .i64 kind, .int .i64 term, .int .i64 (vote + 1), .int .i64 prev] 3)
  have tk : Turn (fun k => P k ∨ k = w.heap.size) (w.alloc (.cells #[.int .i64 kind, .int .i64 term, .int .i64 vote, .int .i64 prev, .slice A l.length cap, .string snap] 67)) ((w.alloc (.cells #[.int .i64 kind, .int .i64 term, .int .i64 vote, .int .i64 prev, .slice A l.length cap, .string snap] 67)).alloc (.cells #[.int .i64 kind, .int .i64 term, .int .i64 (vote + 1), .int .i64 prev] 3)) := Turn.of_below (alloc0 (Below.refl _ _) _) H0.out.lt
  simp only [World.size_alloc] at hat hwr
  have Hat := hidP hat
  have Hwr := hidP hwr
  have Hpz := hidP pz
  have Htk := hidP tk
  clear hat hwr pz tk
  go_wp2_with fail
  refine (numbers_any (fun k => (P k ∨ k = w.heap.size) ∨ k = w.heap.size + 1) z (some ⟨w.heap.size + 1, 0, none⟩) 4 [kind, term, vote + 1, prev] (by simp) (by simp; omega) _ (by simp) _ Hat.out (.inr fun k o e => by cases e; exact .inr rfl) Hwr.out).mono ?_
  rintro e w1 ⟨rfl, t1, h1⟩
  have Hp1 := hidP (Hpz.out.turn t1 (.inl (.inr rfl)))
  have T1 := hidP (T0.out.trans ((Htk.out.trans (t1.mono (fun k hk => .inl hk))).mono (fun k hk => .inl hk)))
  have H1 := hidP (h1.mono (Q := (fun k => P k ∨ k = w.heap.size)) (fun k hk => .inl hk))
  clear Hat Hwr Hpz Htk t1 h1 H0 T0 Hp0
  have d4 : w1.cell? ⟨w.heap.size, 4, none⟩ = some (.slice A l.length cap) := Hp1.out.cell (i := 4) rfl
  have qb := Hp1.out.lt
  go_wp2_with fail
  refine (writeEntries_any (fun k => P k ∨ k = w.heap.size) z A cap l (by omega) HR.out _ (by rw [List.length_append]; simp only [List.length_nil]; omega) _ ((HA.out.turn T1.out).mono (fun k hk => .inl hk)) H1.out).mono ?_
  rintro e w2 ⟨rfl, t2, h2⟩
  have Hp2 := hidP (Hp1.out.turn t2 (.inr rfl))
  have T2 := hidP (T1.out.trans (t2.mono (fun k hk => .inl hk)))
  have H2 := hidP h2
  clear t2 h2 H1 T1 Hp1 d4 qb
  have d5 : w2.cell? ⟨w.heap.size, 5, none⟩ = some (.string snap) := Hp2.out.cell (i := 5) rfl
  have qb := Hp2.out.lt
  go_wp2_with fail
  refine (wtext_any (fun k => P k ∨ k = w.heap.size) z snap _ (by simp only [List.length_append, List.length_nil]; omega) _ H2.out).mono ?_
  rintro e w3 ⟨rfl, t3, h3⟩
  have T3 := hidP (T2.out.trans (t3.mono (fun k hk => .inl hk)))
  have H3 := hidP h3
  clear t3 h3 H2 T2 Hp2 d5 qb
  go_wp2
  go_end0
  refine ⟨rfl, T3.out, ?_⟩
  have := H3.out.mono (Q := P) (fun k hk => .inl hk)
  simpa only [bodyB, txtB, List.append_assoc, List.nil_append] using this
set_option maxRecDepth 100000 in
set_option maxHeartbeats 1000000 in
theorem wsum_any (P : Nat -> Prop) (b n : Nat) (hn : n < 4294967296) (xs : List UInt8) (hx : xs.length <= 500000000) (w : World) (hW : Wr P b w xs) :
    Calls Tryz.prog 122 #[.pointer (some ⟨b, 0, none⟩), .int .i64 (n : Int)] w fun e w' => e = .returned (.tuple #[]) /\ Turn P w w' /\ Wr P b w' (xs ++ sumB 4 n) := by
  have HW := hidP hW
  clear hW
  go_enter Tryz.func122, Tryz.ntmps122
  go_wp2
  go_loopw [1, 4] (fun x i W => ∃ (m k : Nat) (ys : List UInt8), x = .int .i64 (m : Int) /\ i = .int .i64 (k : Int) /\ k <= 4 /\ m < 4294967296 /\ Hid (ys ++ sumB (4 - k) m = xs ++ sumB 4 n) /\ Hid (ys.length <= xs.length + 4) /\ Hid (Wr P b W ys) /\ Hid (Turn P w W)) (fun _ i _ => 4 - (intOf i).toNat)
  case atStart => exact ⟨n, 0, xs, rfl, rfl, by omega, hn, rfl, Nat.le_add_right _ _, HW, Turn.refl _ _⟩
  case round =>
    obtain ⟨m, k, ys, rfl, rfl, hk, hm, hy, hyl, hO, hT⟩ := hrel
    by_cases hlt : k < 4
    . have hlt' : (k : Int) < 4 := by omega
      have hyl : ys.length <= 600000000 := by have := hyl.out; omega
      have hl2 : Hid ((ys ++ [UInt8.ofNat (m % 256)]).length <= xs.length + 4) := by
        show _ <= _
        have h := congrArg List.length hy.out
        simp only [List.length_append, sumB_length, List.length_cons, List.length_nil] at h ⊢
        omega
      obtain ⟨a, c, p, hv, h3, h4, h5⟩ := hO.out
      have c0 := p.row1
      have q0 := p.lt
      have e8 : ((UInt8.ofNat (m % 256)).toNat : Int) = (m : Int) % 256 := by rw [UInt8.toNat_ofNat']; omega
      have he : Hid (ys ++ [UInt8.ofNat (m % 256)] ++ sumB (4 - (k + 1)) (m / 256) = xs ++ sumB 4 n) := by
        show _ = _
        rw [← hy.out, show 4 - k = (4 - (k + 1)) + 1 by omega, sumB]
        simp
      obtain ⟨a', c', W', hr, p', hW', hT'⟩ := write_b (x := UInt8.ofNat (m % 256)) e8 p hv h3 h4 h5 (by omega)
      have HW' := hidP hW'
      have HT' := hidP (hT.out.trans hT')
      have d0 := p'.row1
      have f0 := p'.thaw 0
      clear hW' hT' hv p p' e8 h3 h4 h5
      go_wp2_with (at_builtin; refine wpList_append_is rfl _ _ _ rfl _ _ _ rfl rfl hr ?_)
      refine ⟨⟨m / 256, k + 1, ys ++ [UInt8.ofNat (m % 256)], ?_, by go_num, by omega, by omega, he, hl2, HW', HT'⟩, by simp [intOf]; omega⟩
      show Value.int .i64 _ = Value.int .i64 _
      congr 1
    . obtain rfl : k = 4 := by omega
      have e : ys = xs ++ sumB 4 n := by have h := hy.out; simpa [sumB] using h
      go_wp2
      go_end0
      refine ⟨rfl, hT.out, ?_⟩
      rw [← e]
      exact hO.out
set_option maxRecDepth 100000 in
set_option maxHeartbeats 1000000 in
theorem framed_any (P : Nat -> Prop) (z : Nat) (A : Option Addr) (cap : Nat) (L : List UInt8) (hl : L.length <= 3000000) (w : World) (hA : Pt P w A L) (hW : Wr P z w []) :
    Calls Tryz.prog 58 #[.pointer (some ⟨z, 0, none⟩), .slice A L.length cap] w fun e w' => e = .returned (.tuple #[]) /\ Turn P w w' /\ Wr P z w' (frameB L) := by
  have HA := hidP hA
  have HW := hidP hW
  have hcv : (convert 37 9 (.slice A L.length cap)).run Tryz.prog w = .ok (.string ⟨L.toArray⟩) w := by
    rcases hA.1 with h | ⟨b, o, rfl, hb, hin⟩
    . subst h
      cases A with
      | none => rw [List.length_nil, run_convert_bytes_string w 37 9 5 none 0 cap Tryz.underlying37 Tryz.underlying5 Tryz.underlying9]; simp [Conv.bytesToString, go_sem]; rfl
      | some a =>
        have h := run_convert_bytes_back (P := Tryz.prog) w 37 9 5 a cap [] Tryz.underlying37 Tryz.underlying5 Tryz.underlying9 (fun j hj => by simp at hj)
        simpa using h
    . exact run_convert_bytes_back (P := Tryz.prog) w 37 9 5 ⟨b, o, none⟩ cap L Tryz.underlying37 Tryz.underlying5 Tryz.underlying9 (fun j hj => by rw [Addr.add_mid]; simpa using hin.getB j hj)
  have hsz : (⟨L.toArray⟩ : ByteArray).size = L.length := by show L.toArray.size = _; simp
  have hnb := numB_le (n := L.length) (by omega)
  clear hA hW
  go_enter Tryz.func58, Tryz.ntmps58
  go_wp2_with fail
  refine (wtext_any P z ⟨L.toArray⟩ [] (by rw [hsz]; simp only [List.length_nil]; omega) _ HW.out).mono ?_
  rintro e w1 ⟨rfl, t1, h1⟩
  rw [hsz] at h1
  have T1 := hidP t1
  have H1 := hidP h1
  clear t1 h1 hcv
  go_wp2_with fail
  refine (implSum_any A cap L hl _ (HA.out.turn T1.out).1).mono ?_
  rintro e w2 ⟨rfl, rfl⟩
  go_wp2_with fail
  refine (wsum_any P z (sumN L) (sumN_lt L) _ (by simp only [List.length_append, List.length_nil]; omega) _ H1.out).mono ?_
  rintro e w3 ⟨rfl, t3, h3⟩
  have T3 := hidP (T1.out.trans t3)
  have H3 := hidP h3
  clear t3 h3
  go_wp2
  go_end0
  refine ⟨rfl, T3.out, ?_⟩
  have := H3.out
  simpa only [frameB, List.append_assoc, List.nil_append] using this
end Go.Proofs.YtaefjifcnoiplaaGreat.Gen
