/-
  A command as bytes, as the specification and as the program lay it. Condition: the length that every text has.
-/
import Derived.Test.YtfbbifdfjjkknaaNums
import Derived.Test.YtfbbifdfjjkknaaPutB
import Derived.Test.YtfbbifdfjjkknaaCmdAns
namespace Go.Proofs.Ytfbbifdfjjkknaa.Gen
open Go.ChangeShapes Go.WideShapes Go.ChangeAt Go.RowKit Go.Joins Go.Deep Base
set_option linter.unusedVariables false

/-- A command's bytes. -/
def cmB (who seq op a b c : Int) (k t : ByteArray) : List UInt8 := numsB [who + 1, seq, op, a, b, c] ++ txtB k ++ txtB t
/-- What is written of any command. -/
def cmO (who seq op a b c : Int) (k t : ByteArray) : List UInt8 := if CmdOk.okB who seq op a b c k t = true then cmB who seq op a b c k t else []
structure CmR (who seq op a b c : Int) (k t : ByteArray) : Prop where
  w0 : -1 ≤ who ∧ who ≤ 3
  s0 : 0 ≤ seq ∧ seq ≤ 100000
  o0 : 0 ≤ op ∧ op ≤ 10
  a0 : 0 ≤ a ∧ a ≤ 100000
  b0 : 0 ≤ b ∧ b ≤ 100000
  c0 : 0 ≤ c ∧ c ≤ 100000
  k0 : k.size ≤ 30
  t0 : t.size ≤ 30
theorem ok_ranges {who seq op a b c : Int} {k t : ByteArray} (h : CmdOk.okB who seq op a b c k t = true) : CmR who seq op a b c k t := by
  unfold CmdOk.okB at h
  have hz : ∀ s : ByteArray, (s.toList == []) = true → s.size ≤ 30 := fun s hs => by
    have e : s.toList = [] := by simpa using hs
    have h2 : s.toList.length = s.size := by rw [_root_.Go.ByteArray.toList_eq]; rfl
    rw [e] at h2; simp at h2; omega
  split at h
  · rename_i e
    subst e
    simp only [CmdOk.nobodyB, Bool.and_eq_true] at h
    obtain ⟨⟨⟨⟨⟨⟨h1, h2⟩, h3⟩, h4⟩, h5⟩, h6⟩, h7⟩ := h
    simp only [beq_iff_eq] at h1 h2 h3 h4 h5
    subst h1 h2 h3 h4 h5
    exact ⟨by omega, by omega, by omega, by omega, by omega, by omega, hz k h6, hz t h7⟩
  · simp only [CmdOk.restB, CmdOk.textB, CmdOk.inB, Bool.and_eq_true, decide_eq_true_eq] at h
    obtain ⟨⟨⟨⟨⟨⟨⟨h1, h2⟩, h3⟩, h4⟩, h5⟩, h6⟩, h7⟩, h8⟩ := h
    exact ⟨by omega, by omega, by omega, by omega, by omega, by omega, h7.2, h8.2⟩
theorem cmB_le {who seq op a b c : Int} {k t : ByteArray} (h : CmR who seq op a b c k t) : (cmB who seq op a b c k t).length ≤ 100 := by
  have h1 := numsB_le [who + 1, seq, op, a, b, c]
  have h2 := numB_le (n := k.size) (by have := h.k0; omega)
  have h3 := numB_le (n := t.size) (by have := h.t0; omega)
  have := h.k0
  have := h.t0
  unfold cmB
  rw [List.length_append, List.length_append, txtB_length, txtB_length]
  simp at h1
  omega
theorem cmO_le (who seq op a b c : Int) (k t : ByteArray) : (cmO who seq op a b c k t).length ≤ 10000000 := by
  unfold cmO
  split
  · have := cmB_le (ok_ranges ‹_›); omega
  · simp
theorem new_at {α : Type} [Cel α] (W : World) (L : List α) (cs : Array Value) (tt : TypeId) (h : cs.toList = flat L) : At (W.alloc (.cells cs tt)) (some ⟨W.heap.size, 0, none⟩) L := by
  refine .inr ⟨_, _, rfl, by simp, ?_⟩
  intro j v hv
  rw [← h] at hv
  exact (Blk.new W tt cs).cell (i := 0 + j) (by simpa using hv)

theorem cmd_any (P : Nat → Prop) (z : Nat) (who seq op a b c : Int) (k t : ByteArray) (hR : CmR who seq op a b c k t) (xs : List UInt8) (hx : xs.length ≤ 1900000) (w : World) (hW : Wr P z w xs) :
    Calls Try.prog 78 #[.pointer (some ⟨z, 0, none⟩), .agg #[.int .i64 who, .int .i64 seq, .int .i64 op, .int .i64 a, .int .i64 b, .int .i64 c, .string k, .string t]] w fun e w' => e = .returned (.tuple #[]) ∧ Turn P w w' ∧ Wr P z w' (xs ++ cmB who seq op a b c k t) := by
  obtain ⟨w0, s0, o0, a0, b0, c0, k0, t0⟩ := hR
  have HW := hidP hW
  have h5 : ∀ j, P j → j < w.heap.size := by obtain ⟨_, _, _, _, _, _, h⟩ := hW; exact h
  have H5 := hidP h5
  clear hW h5
  go_enter Try.func78, Try.ntmps78
  have hat := new_at (w.alloc (.cells #[.int .i64 who, .int .i64 seq, .int .i64 op, .int .i64 a, .int .i64 b, .int .i64 c, .string k, .string t] 54)) [who + 1, seq, op, a, b, c] #[.int .i64 (who + 1), .int .i64 seq, .int .i64 op, .int .i64 a, .int .i64 b, .int .i64 c] 3 rfl
  have hwr := (HW.out.keep (.cells #[.int .i64 who, .int .i64 seq, .int .i64 op, .int .i64 a, .int .i64 b, .int .i64 c, .string k, .string t] 54)).keep (.cells #[.int .i64 (who + 1), .int .i64 seq, .int .i64 op, .int .i64 a, .int .i64 b, .int .i64 c] 3)
  have pz := (Blk.new w 54 #[.int .i64 who, .int .i64 seq, .int .i64 op, .int .i64 a, .int .i64 b, .int .i64 c, .string k, .string t]).alloc (.cells #[.int .i64 (who + 1), .int .i64 seq, .int .i64 op, .int .i64 a, .int .i64 b, .int .i64 c] 3)
  simp only [World.size_alloc] at hat hwr
  have hl6 := numsB_le [who + 1, seq, op, a, b, c]
  simp only [List.length_cons, List.length_nil] at hl6
  have t0 : Turn P w ((w.alloc (.cells #[.int .i64 who, .int .i64 seq, .int .i64 op, .int .i64 a, .int .i64 b, .int .i64 c, .string k, .string t] 54)).alloc (.cells #[.int .i64 (who + 1), .int .i64 seq, .int .i64 op, .int .i64 a, .int .i64 b, .int .i64 c] 3)) := Turn.of_below (alloc0 (alloc0 (Below.refl _ w) _) _) H5.out
  have Hat := hidP hat
  have Hwr := hidP hwr
  have Hpz := hidP pz
  have Ht0 := hidP t0
  clear hat hwr pz t0
  go_wp2_with fail
  refine (numbers_any (fun j => (P j ∨ j = w.heap.size) ∨ j = w.heap.size + 1) z (some ⟨w.heap.size + 1, 0, none⟩) 6 [who + 1, seq, op, a, b, c] (by simp) (by simp; omega) xs (by simp; omega) _ Hat.out (.inr fun k o e => by cases e; exact .inr rfl) Hwr.out).mono ?_
  rintro e w1 ⟨rfl, t1, h1⟩
  have p1 := Hpz.out.turn t1 (.inl (.inr rfl))
  have T1 := hidP (Ht0.out.trans (t1.mono (fun k hk => .inl (.inl hk))))
  have H1 := hidP (h1.mono (Q := fun j => P j ∨ j = w.heap.size) (fun k hk => .inl hk))
  have Hp1 := hidP p1
  have d6 := p1.cell (i := 6) rfl
  have q1 := p1.lt
  clear Hat Hwr Hpz t1 h1 p1 Ht0 HW
  go_wp2_with fail
  refine (wtext_any (fun j => P j ∨ j = w.heap.size) z k _ (by rw [List.length_append]; omega) _ H1.out).mono ?_
  rintro e w2 ⟨rfl, t2, h2⟩
  have p2 := Hp1.out.turn t2 (.inr rfl)
  have T2 := hidP (T1.out.trans (t2.mono (fun k hk => .inl hk)))
  have H2 := hidP h2
  have d7 := p2.cell (i := 7) rfl
  have q2 := p2.lt
  clear t2 h2 p2 H1 Hp1 T1 d6
  have hlk := numB_le (n := k.size) (by omega)
  go_wp2_with fail
  refine (wtext_any (fun j => P j ∨ j = w.heap.size) z t _ (by simp only [List.length_append, Array.length_toList]; have : k.data.size = k.size := rfl; omega) _ H2.out).mono ?_
  rintro e w3 ⟨rfl, t3, h3⟩
  have T3 := hidP (T2.out.trans (t3.mono (fun k hk => .inl hk)))
  have H3 := hidP (h3.mono (Q := P) (fun k hk => .inl hk))
  clear t3 h3 H2 T2
  go_wp2
  go_end0
  refine ⟨rfl, T3.out, ?_⟩
  have := H3.out
  simpa only [cmB, txtB, List.append_assoc] using this

set_option maxRecDepth 100000 in
set_option maxHeartbeats 1000000 in
theorem specCmdBytes_any (who seq op a b c : Int) (k t : ByteArray) (hk : k.size ≤ 9223372036854775807) (ht : t.size ≤ 9223372036854775807) (w : World) :
    Calls Try.prog 52 #[.agg #[.int .i64 who, .int .i64 seq, .int .i64 op, .int .i64 a, .int .i64 b, .int .i64 c, .string k, .string t]] w fun e w' => ∃ a' c', e = .returned (.slice a' (cmO who seq op a b c k t).length c') ∧ Below w.heap.size w w' ∧ w'.ownsRow w.heap.size 5 1 (.slice a' (cmO who seq op a b c k t).length c') (cmO who seq op a b c k t).length (flat (cmO who seq op a b c k t)) := by
  have p := Blk.new w 54 #[.int .i64 who, .int .i64 seq, .int .i64 op, .int .i64 a, .int .i64 b, .int .i64 c, .string k, .string t]
  have Hp := hidP p
  clear p
  go_enter Try.func52, Try.ntmps52
  go_wp2_with fail
  refine (CmdOk.spec_any who seq op a b c k t hk ht _).mono ?_
  rintro e w1 ⟨rfl, g1⟩
  have p1 := Hp.out.below g1 Hp.out.lt
  have B1 := via0 g1 (alloc0 (Below.refl _ w) _)
  have q1 := p1.lt
  cases hok : CmdOk.okB who seq op a b c k t with
  | false =>
    have hO : Hid (cmO who seq op a b c k t = []) := by show _ = _; unfold cmO; rw [hok]; rfl
    clear g1 p1
    go_wp2
    go_ret
    rw [hO.out]
    exact ⟨_, _, rfl, alloc0 B1 _, ⟨by simp [flat], .inr ⟨w1.heap.size, 0, #[], rfl, B1.size, Blk.new w1 5 #[], Nat.le_refl _, by simp [maxLen], rfl, rfl⟩⟩⟩
  | true =>
    have hO : Hid (cmO who seq op a b c k t = cmB who seq op a b c k t) := by show _ = _; unfold cmO; rw [hok]; rfl
    obtain ⟨w0, s0, o0, a0, b0, c0, k0, t0⟩ := ok_ranges hok
    have hat := hidP (new_at w1 [who + 1, seq, op, a, b, c] #[.int .i64 (who + 1), .int .i64 seq, .int .i64 op, .int .i64 a, .int .i64 b, .int .i64 c] 3 rfl)
    have d0 := p1.cell (i := 0) rfl; have d1 := p1.cell (i := 1) rfl; have d2 := p1.cell (i := 2) rfl; have d3 := p1.cell (i := 3) rfl
    have d4 := p1.cell (i := 4) rfl; have d5 := p1.cell (i := 5) rfl
    have Hp1 := hidP (p1.alloc (.cells #[.int .i64 (who + 1), .int .i64 seq, .int .i64 op, .int .i64 a, .int .i64 b, .int .i64 c] 3))
    have B2 := alloc0 B1 (.cells #[.int .i64 (who + 1), .int .i64 seq, .int .i64 op, .int .i64 a, .int .i64 b, .int .i64 c] 3)
    clear g1 p1 Hp B1
    go_wp2_with fail
    refine (specNums_any (some ⟨w1.heap.size, 0, none⟩) 6 [who + 1, seq, op, a, b, c] (by simp) _ hat.out).mono ?_
    rintro e w2 ⟨a2, c2, rfl, g2, o2⟩
    have hl6 := numsB_le [who + 1, seq, op, a, b, c]
    simp only [List.length_cons, List.length_nil] at hl6
    have hX : Hid (numsB [who + 1, seq, op, a, b, c] ++ txtB k ++ txtB t = cmB who seq op a b c k t) := hidP rfl
    generalize numsB [who + 1, seq, op, a, b, c] = X at *
    have p2 := Hp1.out.below g2 Hp1.out.lt
    have B3 := via0 g2 B2
    have O2 := hidP (owns_mono (C := w1.heap.size) o2 (by simp))
    have d6 := p2.cell (i := 6) rfl
    have q2 := p2.lt
    have Hp2 := hidP p2
    have s12 := hidP (Nat.le_trans (Nat.le_succ _) (show w1.heap.size + 1 ≤ w2.heap.size by have := g2.size; simpa using this))
    clear g2 o2 p2 hat d0 d1 d2 d3 d4 d5 Hp1 B2
    go_wp2_with fail
    refine (specPutText_any k (by omega) _).mono ?_
    rintro e w3 ⟨a3, c3, rfl, g3, o3⟩
    have hlK : Hid ((txtB k).length ≤ 35) := by show _ ≤ _; rw [txtB_length]; have := numB_le (n := k.size) (by omega); omega
    have hlX : Hid (X.length ≤ 30) := hidP (by omega)
    clear hl6
    generalize txtB k = K at *
    have s13 : w1.heap.size ≤ w3.heap.size := Nat.le_trans s12.out g3.size
    obtain ⟨a4, c4, w4, hr4, hown4, hg4⟩ := append_l (c' := c3) s13 (owns_below O2.out g3) (fresh_owns o3).at (by have := hlK.out; have := hlX.out; omega)
    have B4 := (via0 g3 B3).grown hg4 (via0 g3 B3).size (fun j e => Nat.le_of_not_lt fun q => owns_far (owns_below O2.out g3) (Nat.lt_trans q q1) e.symm)
    have p4 : Blk w4 w.heap.size 54 #[.int .i64 who, .int .i64 seq, .int .i64 op, .int .i64 a, .int .i64 b, .int .i64 c, .string k, .string t] := (hg4.block _ (Nat.lt_of_lt_of_le Hp2.out.lt g3.size) (owns_far (owns_below O2.out g3) q1)).trans (Hp2.out.below g3 Hp2.out.lt)
    have hXK : Hid ((X ++ K).length ≤ 200) := by show _ ≤ _; rw [List.length_append]; have := hlK.out; have := hlX.out; omega
    generalize X ++ K = XK at *
    have d7 := p4.cell (i := 7) rfl
    have q4 := p4.lt
    have s34 := hidP hg4.size
    have O4 := hidP hown4
    have Hs13 := hidP s13
    clear g3 o3 hg4 hown4 p4 O2 Hp2 B3 d6 s12 s13
    go_wp2_with (at_builtin; refine wpList_append_is rfl _ _ _ rfl _ _ _ rfl rfl hr4 ?_)
    refine (specPutText_any t (by omega) _).mono ?_
    rintro e w5 ⟨a5, c5, rfl, g5, o5⟩
    have hlT : Hid ((txtB t).length ≤ 35) := by show _ ≤ _; rw [txtB_length]; have := numB_le (n := t.size) (by omega); omega
    generalize txtB t = T at *
    obtain ⟨a6, c6, w6, hr6, hown6, hg6⟩ := append_l (c' := c5) (Nat.le_trans Hs13.out (Nat.le_trans s34.out g5.size)) (owns_below O4.out g5) (fresh_owns o5).at (by have := hXK.out; have := hlT.out; omega)
    have B6 := hidP ((via0 g5 B4).grown hg6 (via0 g5 B4).size (fun j e => Nat.le_of_not_lt fun q => owns_far (owns_below O4.out g5) (Nat.lt_trans q q1) e.symm))
    have O6 := hidP (owns_mono (C := w.heap.size) hown6 (Nat.le_of_lt q1))
    generalize XK ++ T = Y at *
    clear g5 o5 hg6 hown6 O4 B4 d7 s34 Hs13
    go_wp2_with (at_builtin; refine wpList_append_is rfl _ _ _ rfl _ _ _ rfl rfl hr6 ?_)
    go_ret
    rw [hO.out, ← hX.out]
    exact ⟨a6, c6, rfl, B6.out, O6.out⟩
end Go.Proofs.Ytfbbifdfjjkknaa.Gen
