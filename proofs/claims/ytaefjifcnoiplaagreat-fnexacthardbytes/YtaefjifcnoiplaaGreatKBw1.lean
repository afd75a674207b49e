/-
  The program's writer of items, marks and answers. Condition: at most 500000000 bytes.
-/
import Derived.Test.YtaefjifcnoiplaaGreatKBp
namespace Go.Proofs.YtaefjifcnoiplaaGreat.Gen
open Go.ChangeShapes Go.WideShapes Go.ChangeAt Go.RowKit Go.Joins Go.Deep Base
open Items (It)
set_option linter.unusedVariables false
set_option linter.unusedSimpArgs false
set_option maxRecDepth 100000 in
set_option maxHeartbeats 1000000 in
theorem item_any (P : Nat -> Prop) (z : Nat) (x : It) (hR : ItR x) (xs : List UInt8) (hx : xs.length + (itB x).length <= 500000000) (w : World) (hW : Wr P z w xs) :
    Calls Tryz.prog 176 #[.pointer (some ⟨z, 0, none⟩), .agg #[.int .i64 x.off, .string x.key, .string x.text, .int .i64 x.who, .int .i64 x.time]] w fun e w' => e = .returned (.tuple #[]) /\ Turn P w w' /\ Wr P z w' (xs ++ itB x) := by
  have H0 := hidP (hW.keep (.cells #[.int .i64 x.off, .string x.key, .string x.text, .int .i64 x.who, .int .i64 x.time] 151))
  have T0 : Hid (Turn P w (w.alloc (.cells #[.int .i64 x.off, .string x.key, .string x.text, .int .i64 x.who, .int .i64 x.time] 151))) := hidP (Turn.of_below (alloc0 (Below.refl _ w) _) hW.lt)
  have p0 := Blk.new w 151 #[.int .i64 x.off, .string x.key, .string x.text, .int .i64 x.who, .int .i64 x.time]
  have Hp0 := hidP p0
  have Hx := hidP hx
  clear hW p0 hx
  go_enter Tryz.func176, Tryz.ntmps176
  go_wp2_with fail
  refine (numberI_any (fun k => P k ∨ k = w.heap.size) z (x.off) (hR.off) _ (by have h1 := Hx.out; simp only [itB, txtB, List.length_append, List.length_cons, List.length_nil, Array.length_toList] at h1 ⊢; have hk1 : x.key.data.size = x.key.size := rfl; have hk2 : x.text.data.size = x.text.size := rfl; have := numsB_le [x.who, x.time]; simp only [List.length_cons, List.length_nil] at this; omega) _ H0.out).mono ?_
  rintro e w1 ⟨rfl, t1, h1⟩
  have Hp1 := hidP (Hp0.out.turn t1 (.inr rfl))
  have T1 := hidP (T0.out.trans (t1.mono (fun k hk => .inl hk)))
  have H1 := hidP h1
  clear t1 h1 H0 T0 Hp0
  have d0 : w1.cell? ⟨w.heap.size, 0, none⟩ = some (.int .i64 x.off) := Hp1.out.cell (i := 0) rfl
  have d1 : w1.cell? ⟨w.heap.size, 1, none⟩ = some (.string x.key) := Hp1.out.cell (i := 1) rfl
  have d2 : w1.cell? ⟨w.heap.size, 2, none⟩ = some (.string x.text) := Hp1.out.cell (i := 2) rfl
  have d3 : w1.cell? ⟨w.heap.size, 3, none⟩ = some (.int .i64 x.who) := Hp1.out.cell (i := 3) rfl
  have d4 : w1.cell? ⟨w.heap.size, 4, none⟩ = some (.int .i64 x.time) := Hp1.out.cell (i := 4) rfl
  have qb := Hp1.out.lt
  go_wp2_with fail
  refine (wtext_any (fun k => P k ∨ k = w.heap.size) z (x.key) _ (by have h1 := Hx.out; simp only [itB, txtB, List.length_append, List.length_cons, List.length_nil, Array.length_toList] at h1 ⊢; have hk1 : x.key.data.size = x.key.size := rfl; have hk2 : x.text.data.size = x.text.size := rfl; have := numsB_le [x.who, x.time]; simp only [List.length_cons, List.length_nil] at this; omega) _ H1.out).mono ?_
  rintro e w2 ⟨rfl, t2, h2⟩
  have Hp2 := hidP (Hp1.out.turn t2 (.inr rfl))
  have T2 := hidP (T1.out.trans (t2.mono (fun k hk => .inl hk)))
  have H2 := hidP h2
  clear t2 h2 H1 T1 Hp1 d0 d1 d2 d3 d4 qb
  have d0 : w2.cell? ⟨w.heap.size, 0, none⟩ = some (.int .i64 x.off) := Hp2.out.cell (i := 0) rfl
  have d1 : w2.cell? ⟨w.heap.size, 1, none⟩ = some (.string x.key) := Hp2.out.cell (i := 1) rfl
  have d2 : w2.cell? ⟨w.heap.size, 2, none⟩ = some (.string x.text) := Hp2.out.cell (i := 2) rfl
  have d3 : w2.cell? ⟨w.heap.size, 3, none⟩ = some (.int .i64 x.who) := Hp2.out.cell (i := 3) rfl
  have d4 : w2.cell? ⟨w.heap.size, 4, none⟩ = some (.int .i64 x.time) := Hp2.out.cell (i := 4) rfl
  have qb := Hp2.out.lt
  go_wp2_with fail
  refine (wtext_any (fun k => P k ∨ k = w.heap.size) z (x.text) _ (by have h1 := Hx.out; simp only [itB, txtB, List.length_append, List.length_cons, List.length_nil, Array.length_toList] at h1 ⊢; have hk1 : x.key.data.size = x.key.size := rfl; have hk2 : x.text.data.size = x.text.size := rfl; have := numsB_le [x.who, x.time]; simp only [List.length_cons, List.length_nil] at this; omega) _ H2.out).mono ?_
  rintro e w3 ⟨rfl, t3, h3⟩
  have Hp3 := hidP (Hp2.out.turn t3 (.inr rfl))
  have T3 := hidP (T2.out.trans (t3.mono (fun k hk => .inl hk)))
  have H3 := hidP h3
  clear t3 h3 H2 T2 Hp2 d0 d1 d2 d3 d4 qb
  have d0 : w3.cell? ⟨w.heap.size, 0, none⟩ = some (.int .i64 x.off) := Hp3.out.cell (i := 0) rfl
  have d1 : w3.cell? ⟨w.heap.size, 1, none⟩ = some (.string x.key) := Hp3.out.cell (i := 1) rfl
  have d2 : w3.cell? ⟨w.heap.size, 2, none⟩ = some (.string x.text) := Hp3.out.cell (i := 2) rfl
  have d3 : w3.cell? ⟨w.heap.size, 3, none⟩ = some (.int .i64 x.who) := Hp3.out.cell (i := 3) rfl
  have d4 : w3.cell? ⟨w.heap.size, 4, none⟩ = some (.int .i64 x.time) := Hp3.out.cell (i := 4) rfl
  have qb := Hp3.out.lt
  have hat := newL w3 ([x.who, x.time] : List Int) #[.int .i64 x.who, .int .i64 x.time] 3 rfl
  have hwr := H3.out.keep (.cells #[.int .i64 x.who, .int .i64 x.time] 3)
  have pz := Hp3.out.alloc (.cells #[.int .i64 x.who, .int .i64 x.time] 3)
  have tk : Turn (fun k => P k ∨ k = w.heap.size) w3 (w3.alloc (.cells #[.int .i64 x.who, .int .i64 x.time] 3)) := Turn.of_below (alloc0 (Below.refl _ _) _) H3.out.lt
  skip
  have Hat := hidP hat
  have Hwr := hidP hwr
  have Hpz := hidP pz
  have Htk := hidP tk
  clear hat hwr pz tk
  go_wp2_with fail
  refine (numbers_any (fun k => (P k ∨ k = w.heap.size) ∨ k = w3.heap.size) z (some ⟨w3.heap.size, 0, none⟩) 2 [x.who, x.time] (by simp) (by have := hR.who; have := hR.time; simp; omega) _ (by have h1 := Hx.out; simp only [itB, txtB, List.length_append, List.length_cons, List.length_nil, Array.length_toList] at h1 ⊢; have hk1 : x.key.data.size = x.key.size := rfl; have hk2 : x.text.data.size = x.text.size := rfl; have := numsB_le [x.who, x.time]; simp only [List.length_cons, List.length_nil] at this; omega) _ Hat.out (.inr fun k o e => by cases e; exact .inr rfl) Hwr.out).mono ?_
  rintro e w4 ⟨rfl, t4, h4⟩
  have Hp4 := hidP (Hpz.out.turn t4 (.inl (.inr rfl)))
  have T4 := hidP (T3.out.trans ((Htk.out.trans (t4.mono (fun k hk => .inl hk))).mono (fun k hk => .inl hk)))
  have H4 := hidP (h4.mono (Q := (fun k => P k ∨ k = w.heap.size)) (fun k hk => .inl hk))
  clear Hat Hwr Hpz Htk t4 h4 H3 T3 Hp3 d0 d1 d2 d3 d4 qb
  go_wp2
  go_end0
  refine ⟨rfl, T4.out, ?_⟩
  have := H4.out.mono (Q := P) (fun k hk => .inl hk)
  simpa only [itB, txtB, List.append_assoc] using this
set_option maxRecDepth 100000 in
set_option maxHeartbeats 1000000 in
theorem mark_any (P : Nat -> Prop) (z : Nat) (x : Mk) (hR : MkR x) (xs : List UInt8) (hx : xs.length + (mkB x).length <= 500000000) (w : World) (hW : Wr P z w xs) :
    Calls Tryz.prog 178 #[.pointer (some ⟨z, 0, none⟩), .agg #[.int .i64 x.seq, .int .i64 x.off]] w fun e w' => e = .returned (.tuple #[]) /\ Turn P w w' /\ Wr P z w' (xs ++ mkB x) := by
  have H0 := hidP (hW.keep (.cells #[.int .i64 x.seq, .int .i64 x.off] 157))
  have T0 : Hid (Turn P w (w.alloc (.cells #[.int .i64 x.seq, .int .i64 x.off] 157))) := hidP (Turn.of_below (alloc0 (Below.refl _ w) _) hW.lt)
  have p0 := Blk.new w 157 #[.int .i64 x.seq, .int .i64 x.off]
  have Hp0 := hidP p0
  have Hx := hidP hx
  clear hW p0 hx
  go_enter Tryz.func178, Tryz.ntmps178
  have hat := newL (w.alloc (.cells #[.int .i64 x.seq, .int .i64 x.off] 157)) ([x.seq, x.off] : List Int) #[.int .i64 x.seq, .int .i64 x.off] 3 rfl
  have hwr := H0.out.keep (.cells #[.int .i64 x.seq, .int .i64 x.off] 3)
  have pz := Hp0.out.alloc (.cells #[.int .i64 x.seq, .int .i64 x.off] 3)
  have tk : Turn (fun k => P k ∨ k = w.heap.size) (w.alloc (.cells #[.int .i64 x.seq, .int .i64 x.off] 157)) ((w.alloc (.cells #[.int .i64 x.seq, .int .i64 x.off] 157)).alloc (.cells #[.int .i64 x.seq, .int .i64 x.off] 3)) := Turn.of_below (alloc0 (Below.refl _ _) _) H0.out.lt
  simp only [World.size_alloc] at hat hwr
  have Hat := hidP hat
  have Hwr := hidP hwr
  have Hpz := hidP pz
  have Htk := hidP tk
  clear hat hwr pz tk
  go_wp2_with fail
  refine (numbers_any (fun k => (P k ∨ k = w.heap.size) ∨ k = w.heap.size + 1) z (some ⟨w.heap.size + 1, 0, none⟩) 2 [x.seq, x.off] (by simp) (by have := hR.seq; have := hR.off; simp; omega) _ (by have h1 := Hx.out; simp only [mkB, List.length_cons, List.length_nil] at h1 ⊢; omega) _ Hat.out (.inr fun k o e => by cases e; exact .inr rfl) Hwr.out).mono ?_
  rintro e w1 ⟨rfl, t1, h1⟩
  have Hp1 := hidP (Hpz.out.turn t1 (.inl (.inr rfl)))
  have T1 := hidP (T0.out.trans ((Htk.out.trans (t1.mono (fun k hk => .inl hk))).mono (fun k hk => .inl hk)))
  have H1 := hidP (h1.mono (Q := (fun k => P k ∨ k = w.heap.size)) (fun k hk => .inl hk))
  clear Hat Hwr Hpz Htk t1 h1 H0 T0 Hp0
  go_wp2
  go_end0
  refine ⟨rfl, T1.out, ?_⟩
  have := H1.out.mono (Q := P) (fun k hk => .inl hk)
  simpa only [mkB, txtB, List.append_assoc] using this
set_option maxRecDepth 100000 in
set_option maxHeartbeats 1000000 in
theorem answer_any (P : Nat -> Prop) (z : Nat) (x : An) (hR : AnR x) (xs : List UInt8) (hx : xs.length + (anB x).length <= 500000000) (w : World) (hW : Wr P z w xs) :
    Calls Tryz.prog 160 #[.pointer (some ⟨z, 0, none⟩), .agg #[.int .i64 x.code, .int .i64 x.n, .string x.key, .string x.text]] w fun e w' => e = .returned (.tuple #[]) /\ Turn P w w' /\ Wr P z w' (xs ++ anB x) := by
  obtain ⟨hn0, hn1⟩ := hR.n
  have H0 := hidP (hW.keep (.cells #[.int .i64 x.code, .int .i64 x.n, .string x.key, .string x.text] 146))
  have T0 : Hid (Turn P w (w.alloc (.cells #[.int .i64 x.code, .int .i64 x.n, .string x.key, .string x.text] 146))) := hidP (Turn.of_below (alloc0 (Below.refl _ w) _) hW.lt)
  have p0 := Blk.new w 146 #[.int .i64 x.code, .int .i64 x.n, .string x.key, .string x.text]
  have Hp0 := hidP p0
  have Hx := hidP hx
  clear hW p0 hx
  go_enter Tryz.func160, Tryz.ntmps160
  have hat := newL (w.alloc (.cells #[.int .i64 x.code, .int .i64 x.n, .string x.key, .string x.text] 146)) ([x.code, x.n + 1] : List Int) #[.int .i64 x.code, .int .i64 (x.n + 1)] 3 rfl
  have hwr := H0.out.keep (.cells #[.int .i64 x.code, .int .i64 (x.n + 1)] 3)
  have pz := Hp0.out.alloc (.cells #[.int .i64 x.code, .int .i64 (x.n + 1)] 3)
  have tk : Turn (fun k => P k ∨ k = w.heap.size) (w.alloc (.cells #[.int .i64 x.code, .int .i64 x.n, .string x.key, .string x.text] 146)) ((w.alloc (.cells #[.int .i64 x.code, .int .i64 x.n, .string x.key, .string x.text] 146)).alloc (.cells #[.int .i64 x.code, .int .i64 (x.n + 1)] 3)) := Turn.of_below (alloc0 (Below.refl _ _) _) H0.out.lt
  simp only [World.size_alloc] at hat hwr
  have Hat := hidP hat
  have Hwr := hidP hwr
  have Hpz := hidP pz
  have Htk := hidP tk
  clear hat hwr pz tk
  go_wp2_with fail
  refine (numbers_any (fun k => (P k ∨ k = w.heap.size) ∨ k = w.heap.size + 1) z (some ⟨w.heap.size + 1, 0, none⟩) 2 [x.code, x.n + 1] (by simp) (by have := hR.code; have := hR.n; simp; omega) _ (by have h1 := Hx.out; simp only [anB, txtB, List.length_append, List.length_cons, List.length_nil, Array.length_toList] at h1 ⊢; have hk1 : x.key.data.size = x.key.size := rfl; have hk2 : x.text.data.size = x.text.size := rfl; have := numsB_le [x.code, x.n + 1]; simp only [List.length_cons, List.length_nil] at this; omega) _ Hat.out (.inr fun k o e => by cases e; exact .inr rfl) Hwr.out).mono ?_
  rintro e w1 ⟨rfl, t1, h1⟩
  have Hp1 := hidP (Hpz.out.turn t1 (.inl (.inr rfl)))
  have T1 := hidP (T0.out.trans ((Htk.out.trans (t1.mono (fun k hk => .inl hk))).mono (fun k hk => .inl hk)))
  have H1 := hidP (h1.mono (Q := (fun k => P k ∨ k = w.heap.size)) (fun k hk => .inl hk))
  clear Hat Hwr Hpz Htk t1 h1 H0 T0 Hp0
  have d0 : w1.cell? ⟨w.heap.size, 0, none⟩ = some (.int .i64 x.code) := Hp1.out.cell (i := 0) rfl
  have d1 : w1.cell? ⟨w.heap.size, 1, none⟩ = some (.int .i64 x.n) := Hp1.out.cell (i := 1) rfl
  have d2 : w1.cell? ⟨w.heap.size, 2, none⟩ = some (.string x.key) := Hp1.out.cell (i := 2) rfl
  have d3 : w1.cell? ⟨w.heap.size, 3, none⟩ = some (.string x.text) := Hp1.out.cell (i := 3) rfl
  have qb := Hp1.out.lt
  go_wp2_with fail
  refine (wtext_any (fun k => P k ∨ k = w.heap.size) z (x.key) _ (by have h1 := Hx.out; simp only [anB, txtB, List.length_append, List.length_cons, List.length_nil, Array.length_toList] at h1 ⊢; have hk1 : x.key.data.size = x.key.size := rfl; have hk2 : x.text.data.size = x.text.size := rfl; have := numsB_le [x.code, x.n + 1]; simp only [List.length_cons, List.length_nil] at this; omega) _ H1.out).mono ?_
  rintro e w2 ⟨rfl, t2, h2⟩
  have Hp2 := hidP (Hp1.out.turn t2 (.inr rfl))
  have T2 := hidP (T1.out.trans (t2.mono (fun k hk => .inl hk)))
  have H2 := hidP h2
  clear t2 h2 H1 T1 Hp1 d0 d1 d2 d3 qb
  have d0 : w2.cell? ⟨w.heap.size, 0, none⟩ = some (.int .i64 x.code) := Hp2.out.cell (i := 0) rfl
  have d1 : w2.cell? ⟨w.heap.size, 1, none⟩ = some (.int .i64 x.n) := Hp2.out.cell (i := 1) rfl
  have d2 : w2.cell? ⟨w.heap.size, 2, none⟩ = some (.string x.key) := Hp2.out.cell (i := 2) rfl
  have d3 : w2.cell? ⟨w.heap.size, 3, none⟩ = some (.string x.text) := Hp2.out.cell (i := 3) rfl
  have qb := Hp2.out.lt
  go_wp2_with fail
  refine (wtext_any (fun k => P k ∨ k = w.heap.size) z (x.text) _ (by have h1 := Hx.out; simp only [anB, txtB, List.length_append, List.length_cons, List.length_nil, Array.length_toList] at h1 ⊢; have hk1 : x.key.data.size = x.key.size := rfl; have hk2 : x.text.data.size = x.text.size := rfl; have := numsB_le [x.code, x.n + 1]; simp only [List.length_cons, List.length_nil] at this; omega) _ H2.out).mono ?_
  rintro e w3 ⟨rfl, t3, h3⟩
  have Hp3 := hidP (Hp2.out.turn t3 (.inr rfl))
  have T3 := hidP (T2.out.trans (t3.mono (fun k hk => .inl hk)))
  have H3 := hidP h3
  clear t3 h3 H2 T2 Hp2 d0 d1 d2 d3 qb
  go_wp2
  go_end0
  refine ⟨rfl, T3.out, ?_⟩
  have := H3.out.mono (Q := P) (fun k hk => .inl hk)
  simpa only [anB, txtB, List.append_assoc] using this
end Go.Proofs.YtaefjifcnoiplaaGreat.Gen
