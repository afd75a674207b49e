/-
  A command as bytes, as the specification and as the program lay it. Condition: the length that every text has.
-/
import Derived.Test.YtaefjifcnoiplaaGreatWr
import Derived.Test.YtaefjifcnoiplaaGreatAnsList
namespace Go.Proofs.YtaefjifcnoiplaaGreat.Gen
open Go.ChangeShapes Go.WideShapes Go.ChangeAt Go.RowKit Go.Joins Go.Deep Base
set_option linter.unusedVariables false
def cmB (who seq op a b c : Int) (k t : ByteArray) : List UInt8 := numsB [who + 1, seq, op, a, b, c] ++ txtB k ++ txtB t
def cmO (who seq op a b c : Int) (k t : ByteArray) : List UInt8 := if CmdOk.okB who seq op a b c k t = true then cmB who seq op a b c k t else []
structure CmR (who seq op a b c : Int) (k t : ByteArray) : Prop where
  w0 : -1 <= who /\ who <= 3
  s0 : 0 <= seq /\ seq <= 100000
  o0 : 0 <= op /\ op <= 10
  a0 : 0 <= a /\ a <= 100000
  b0 : 0 <= b /\ b <= 100000
  c0 : 0 <= c /\ c <= 100000
  k0 : k.size <= 30
  t0 : t.size <= 30
theorem ok_ranges {who seq op a b c : Int} {k t : ByteArray} (h : CmdOk.okB who seq op a b c k t = true) : CmR who seq op a b c k t := by
  unfold CmdOk.okB at h
  have hz : ∀ s : ByteArray, (s.toList == []) = true -> s.size <= 30 := fun s hs => by
    have e : s.toList = [] := by simpa using hs
    have h2 : s.toList.length = s.size := by rw [_root_.Go.ByteArray.toList_eq]; rfl
    rw [e] at h2; simp at h2; omega
  split at h
  . rename_i e
    subst e
    simp only [CmdOk.nobodyB, Bool.and_eq_true] at h
    obtain ⟨⟨⟨⟨⟨⟨h1, h2⟩, h3⟩, h4⟩, h5⟩, h6⟩, h7⟩ := h
    simp only [beq_iff_eq] at h1 h2 h3 h4 h5
    subst h1 h2 h3 h4 h5
    exact ⟨by omega, by omega, by omega, by omega, by omega, by omega, hz k h6, hz t h7⟩
  . simp only [CmdOk.restB, CmdOk.textB, CmdOk.inB, Bool.and_eq_true, decide_eq_true_eq] at h
    obtain ⟨⟨⟨⟨⟨⟨⟨h1, h2⟩, h3⟩, h4⟩, h5⟩, h6⟩, h7⟩, h8⟩ := h
    exact ⟨by omega, by omega, by omega, by omega, by omega, by omega, h7.2, h8.2⟩
theorem cmB_le {who seq op a b c : Int} {k t : ByteArray} (h : CmR who seq op a b c k t) : (cmB who seq op a b c k t).length <= 100 := by
  have h1 := numsB_le [who + 1, seq, op, a, b, c]
  have h2 := numB_le (n := k.size) (by have := h.k0; omega)
  have h3 := numB_le (n := t.size) (by have := h.t0; omega)
  have := h.k0
  have := h.t0
  unfold cmB
  rw [List.length_append, List.length_append, txtB_length, txtB_length]
  simp at h1
  omega
theorem new_at {α : Type} [Cel α] (W : World) (L : List α) (cs : Array Value) (tt : TypeId) (h : cs.toList = flat L) : At (W.alloc (.cells cs tt)) (some ⟨W.heap.size, 0, none⟩) L := by
  refine .inr ⟨_, _, rfl, by simp, ?_⟩
  intro j v hv
  rw [← h] at hv
  exact (Blk.new W tt cs).cell (i := 0 + j) (by simpa using hv)
theorem cmd_any (P : Nat -> Prop) (z : Nat) (who seq op a b c : Int) (k t : ByteArray) (hR : CmR who seq op a b c k t) (xs : List UInt8) (hx : xs.length <= 1900000) (w : World) (hW : Wr P z w xs) :
    Calls Tryz.prog 163 #[.pointer (some ⟨z, 0, none⟩), .agg #[.int .i64 who, .int .i64 seq, .int .i64 op, .int .i64 a, .int .i64 b, .int .i64 c, .string k, .string t]] w fun e w' => e = .returned (.tuple #[]) /\ Turn P w w' /\ Wr P z w' (xs ++ cmB who seq op a b c k t) := by
  obtain ⟨w0, s0, o0, a0, b0, c0, k0, t0⟩ := hR
  have HW := hidP hW
  have h5 : ∀ j, P j -> j < w.heap.size := by obtain ⟨_, _, _, _, _, _, h⟩ := hW; exact h
  have H5 := hidP h5
  clear hW h5
  go_enter Tryz.func163, Tryz.ntmps163
  have hat := new_at (w.alloc (.cells #[.int .i64 who, .int .i64 seq, .int .i64 op, .int .i64 a, .int .i64 b, .int .i64 c, .string k, .string t] 87)) [who + 1, seq, op, a, b, c] #[.int .i64 (who + 1), .int .i64 seq, .int .i64 op, .int .i64 a, .int .i64 b, .int .i64 c] 3 rfl
  have hwr := (HW.out.keep (.cells #[.int .i64 who, .int .i64 seq, .int .i64 op, .int .i64 a, .int .i64 b, .int .i64 c, .string k, .string t] 87)).keep (.cells #[.int .i64 (who + 1), .int .i64 seq, .int .i64 op, .int .i64 a, .int .i64 b, .int .i64 c] 3)
  have pz := (Blk.new w 87 #[.int .i64 who, .int .i64 seq, .int .i64 op, .int .i64 a, .int .i64 b, .int .i64 c, .string k, .string t]).alloc (.cells #[.int .i64 (who + 1), .int .i64 seq, .int .i64 op, .int .i64 a, .int .i64 b, .int .i64 c] 3)
  simp only [World.size_alloc] at hat hwr
  have hl6 := numsB_le [who + 1, seq, op, a, b, c]
  simp only [List.length_cons, List.length_nil] at hl6
  have t0 : Turn P w ((w.alloc (.cells #[.int .i64 who, .int .i64 seq, .int .i64 op, .int .i64 a, .int .i64 b, .int .i64 c, .string k, .string t] 87)).alloc (.cells #[.int .i64 (who + 1), .int .i64 seq, .int .i64 op, .int .i64 a, .int .i64 b, .int .i64 c] 3)) := Turn.of_below (alloc0 (alloc0 (Below.refl _ w) _) _) H5.out
  have Hat := hidP hat
  have Hwr := hidP hwr
  have Hpz := hidP pz
  have Ht0 := hidP t0
  clear hat hwr pz t0
  go_wp2_with fail
  refine (numbers_any (fun j => (P j ∨ j = w.heap.size) ∨ j = w.heap.size + 1) z (some ⟨w.heap.size + 1, 0, none⟩) 6 [who + 1, seq, op, a, b, c] (by simp) (by simp; omega) xs (by simp; omega) _ Hat.out (.inr fun k o e => by cases e; exact .inr rfl) Hwr.out).mono ?_
  rintro e w1 ⟨rfl, t1, h1⟩
  have p1 := Hpz.out.turn t1 (.inl (.inr rfl))
  have T1 := hidP (Ht0.out.trans (t1.mono (fun k hk => .inl (.inl hk))))
  have H1 := hidP (h1.mono (Q := fun j => P j ∨ j = w.heap.size) (fun k hk => .inl hk))
  have Hp1 := hidP p1
  have d6 := p1.cell (i := 6) rfl
  have q1 := p1.lt
  clear Hat Hwr Hpz t1 h1 p1 Ht0 HW
  go_wp2_with fail
  refine (wtext_any (fun j => P j ∨ j = w.heap.size) z k _ (by rw [List.length_append]; omega) _ H1.out).mono ?_
  rintro e w2 ⟨rfl, t2, h2⟩
  have p2 := Hp1.out.turn t2 (.inr rfl)
  have T2 := hidP (T1.out.trans (t2.mono (fun k hk => .inl hk)))
  have H2 := hidP h2
  have d7 := p2.cell (i := 7) rfl
  have q2 := p2.lt
  clear t2 h2 p2 H1 Hp1 T1 d6
  have hlk := numB_le (n := k.size) (by omega)
  go_wp2_with fail
  refine (wtext_any (fun j => P j ∨ j = w.heap.size) z t _ (by simp only [List.length_append, Array.length_toList]; have : k.data.size = k.size := rfl; omega) _ H2.out).mono ?_
  rintro e w3 ⟨rfl, t3, h3⟩
  have T3 := hidP (T2.out.trans (t3.mono (fun k hk => .inl hk)))
  have H3 := hidP (h3.mono (Q := P) (fun k hk => .inl hk))
  clear t3 h3 H2 T2
  go_wp2
  go_end0
  refine ⟨rfl, T3.out, ?_⟩
  have := H3.out
  simpa only [cmB, txtB, List.append_assoc] using this
set_option maxRecDepth 100000 in
set_option maxHeartbeats 1000000 in
theorem specCmdBytes_any (who seq op a b c : Int) (k t : ByteArray) (hk : k.size <= 9223372036854775807) (ht : t.size <= 9223372036854775807) (w : World) :
    Calls Tryz.prog 139 #[.agg #[.int .i64 who, .int .i64 seq, .int .i64 op, .int .i64 a, .int .i64 b, .int .i64 c, .string k, .string t]] w fun e w' => ∃ a' c', e = .returned (.slice a' (cmO who seq op a b c k t).length c') /\ Below w.heap.size w w' /\ w'.ownsRow w.heap.size 5 1 (.slice a' (cmO who seq op a b c k t).length c') (cmO who seq op a b c k t).length (flat (cmO who seq op a b c k t)) := by
  have p := Blk.new w 87 #[.int .i64 who, .int .i64 seq, .int .i64 op, .int .i64 a, .int .i64 b, .int .i64 c, .string k, .string t]
  have Hp := hidP p
  clear p
  go_enter Tryz.func139, Tryz.ntmps139
  go_wp2_with fail
  refine (CmdOk.spec_any who seq op a b c k t hk ht _).mono ?_
  rintro e w1 ⟨rfl, g1⟩
  have p1 := Hp.out.below g1 Hp.out.lt
  have B1 := via0 g1 (alloc0 (Below.refl _ w) _)
  have q1 := p1.lt
  cases hok : CmdOk.okB who seq op a b c k t with
  | false =>
    have hO : Hid (cmO who seq op a b c k t = []) := by show _ = _; unfold cmO; rw [hok]; rfl
    clear g1 p1
    go_wp2
    go_ret
    rw [hO.out]
    exact ⟨_, _, rfl, alloc0 B1 _, ⟨by simp [flat], .inr ⟨w1.heap.size, 0, #[], rfl, B1.size, Blk.new w1 5 #[], Nat.le_refl _, by simp [maxLen], rfl, rfl⟩⟩⟩
  | true =>
    have hO : Hid (cmO who seq op a b c k t = cmB who seq op a b c k t) := by show _ = _; unfold cmO; rw [hok]; rfl
    obtain ⟨w0, s0, o0, a0, b0, c0, k0, t0⟩ := ok_ranges hok
    have hat := hidP (new_at w1 [who + 1, seq, op, a, b, c] #[.int .i64 (who + 1), .int .i64 seq, .int .i64 op, .int .i64 a, .int .i64 b, .int .i64 c] 3 rfl)
    have d0 := p1.cell (i := 0) rfl; have d1 := p1.cell (i := 1) rfl; have d2 := p1.cell (i := 2) rfl; have d3 := p1.cell (i := 3) rfl
    have d4 := p1.cell (i := 4) rfl; have d5 := p1.cell (i := 5) rfl
    have Hp1 := hidP (p1.alloc (.cells #[.int .i64 (who + 1), .int .i64 seq, .int .i64 op, .int .i64 a, .int .i64 b, .int .i64 c] 3))
    have B2 := alloc0 B1 (.cells #[.int .i64 (who + 1), .int .i64 seq, .int .i64 op, .int .i64 a, .int .i64 b, .int .i64 c] 3)
    clear g1 p1 Hp B1
    go_wp2_with fail
    refine (specNums_any (some ⟨w1.heap.size, 0, none⟩) 6 [who + 1, seq, op, a, b, c] (by simp) _ hat.out).mono ?_
    rintro e w2 ⟨a2, c2, rfl, g2, o2⟩
    have hl6 := numsB_le [who + 1, seq, op, a, b, c]
    simp only [List.length_cons, List.length_nil] at hl6
    have hX : Hid (numsB [who + 1, seq, op, a, b, c] ++ txtB k ++ txtB t = cmB who seq op a b c k t) := hidP rfl
    generalize numsB [who + 1, seq, op, a, b, c] = X at *
    have p2 := Hp1.out.below g2 Hp1.out.lt
    have B3 := via0 g2 B2
    have O2 := hidP (owns_mono (C := w1.heap.size) o2 (by simp))
    have d6 := p2.cell (i := 6) rfl
    have q2 := p2.lt
    have Hp2 := hidP p2
    have s12 := hidP (Nat.le_trans (Nat.le_succ _) (show w1.heap.size + 1 <= w2.heap.size by have := g2.size; simpa using this))
    clear g2 o2 p2 hat d0 d1 d2 d3 d4 d5 Hp1 B2
    go_wp2_with fail
    refine (specPutText_any k (by omega) _).mono ?_
    rintro e w3 ⟨a3, c3, rfl, g3, o3⟩
    have hlK : Hid ((txtB k).length <= 35) := by show _ <= _; rw [txtB_length]; have := numB_le (n := k.size) (by omega); omega
    have hlX : Hid (X.length <= 30) := hidP (by omega)
    clear hl6
    generalize txtB k = K at *
    have s13 : w1.heap.size <= w3.heap.size := Nat.le_trans s12.out g3.size
    obtain ⟨a4, c4, w4, hr4, hown4, hg4⟩ := append_l (c' := c3) s13 (owns_below O2.out g3) (fresh_owns o3).at (by have := hlK.out; have := hlX.out; omega)
    have B4 := (via0 g3 B3).grown hg4 (via0 g3 B3).size (fun j e => Nat.le_of_not_lt fun q => owns_far (owns_below O2.out g3) (Nat.lt_trans q q1) e.symm)
    have p4 : Blk w4 w.heap.size 87 #[.int .i64 who, .int .i64 seq, .int .i64 op, .int .i64 a, .int .i64 b, .int .i64 c, .string k, .string t] := (hg4.block _ (Nat.lt_of_lt_of_le Hp2.out.lt g3.size) (owns_far (owns_below O2.out g3) q1)).trans (Hp2.out.below g3 Hp2.out.lt)
    have hXK : Hid ((X ++ K).length <= 200) := by show _ <= _; rw [List.length_append]; have := hlK.out; have := hlX.out; omega
    generalize X ++ K = XK at *
    have d7 := p4.cell (i := 7) rfl
    have q4 := p4.lt
    have s34 := hidP hg4.size
    have O4 := hidP hown4
    have Hs13 := hidP s13
    clear g3 o3 hg4 hown4 p4 O2 Hp2 B3 d6 s12 s13
    go_wp2_with (at_builtin; refine wpList_append_is rfl _ _ _ rfl _ _ _ rfl rfl hr4 ?_)
    refine (specPutText_any t (by omega) _).mono ?_
    rintro e w5 ⟨a5, c5, rfl, g5, o5⟩
    have hlT : Hid ((txtB t).length <= 35) := by show _ <= _; rw [txtB_length]; have := numB_le (n := t.size) (by omega); omega
    generalize txtB t = T at *
    obtain ⟨a6, c6, w6, hr6, hown6, hg6⟩ := append_l (c' := c5) (Nat.le_trans Hs13.out (Nat.le_trans s34.out g5.size)) (owns_below O4.out g5) (fresh_owns o5).at (by have := hXK.out; have := hlT.out; omega)
    have B6 := hidP ((via0 g5 B4).grown hg6 (via0 g5 B4).size (fun j e => Nat.le_of_not_lt fun q => owns_far (owns_below O4.out g5) (Nat.lt_trans q q1) e.symm))
    have O6 := hidP (owns_mono (C := w.heap.size) hown6 (Nat.le_of_lt q1))
    generalize XK ++ T = Y at *
    clear g5 o5 hg6 hown6 O4 B4 d7 s34 Hs13
    go_wp2_with (at_builtin; refine wpList_append_is rfl _ _ _ rfl _ _ _ rfl rfl hr6 ?_)
    go_ret
    rw [hO.out, ← hX.out]
    exact ⟨a6, c6, rfl, B6.out, O6.out⟩
end Go.Proofs.YtaefjifcnoiplaaGreat.Gen

/-
  Group: what the laws' to, sz, eq, mark and held functions of it do; the argument opened. No condition but that its lists have at most 1048576 numbers.
-/
namespace Go.Proofs.YtaefjifcnoiplaaGreat.Gen
open Go.ChangeShapes Go.WideShapes Go.ChangeAt Go.RowKit Go.Joins Go.Deep Base
set_option linter.unusedVariables false
set_option maxRecDepth 100000 in
theorem szGroup_any (gen : Int) (A B C : Option Addr) (nm nb no ca cb cc : Nat) (hm : nm <= 9223372036854775807) (hb : nb <= 9223372036854775807) (ho : no <= 9223372036854775807) (left : Int) (h0 : 0 <= left) (h1 : left <= 1048576) (w : World) :
    Calls Tryz.prog 74 #[.agg #[.int .i64 gen, .slice A nm ca, .slice B nb cb, .slice C no cc], .int .i64 left] w fun e w' => e = .returned (.int .i64 (if left < (nm + nb + no : Nat) then -1 else left - (nm + nb + no : Nat))) /\ Below w.heap.size w w' := by
  generalize hans : (if left < ((nm + nb + no : Nat) : Int) then (-1 : Int) else left - ((nm + nb + no : Nat) : Int)) = ans
  have Hans := hidP hans
  clear hans
  go_enter Tryz.func74, Tryz.ntmps74
  go_wp2_with fail
  refine (szInt_any A nm ca hm left h0 h1 _).mono ?_
  by_cases k1 : left < nm
  . rw [if_pos k1]
    rintro e w1 ⟨rfl, rfl⟩
    have e : ans = -1 := by rw [← Hans.out, if_pos (by omega)]
    subst e
    go_wp2
    go_ret
    exact ⟨rfl, by repeat (first | exact Below.refl _ _ | assumption | refine via0 (by assumption) ?_ | refine Below.drew ?_ | refine alloc0 ?_ _)⟩
  rw [if_neg k1]
  rintro e w1 ⟨rfl, rfl⟩
  have k1' : ¬ left - (nm : Int) < 0 := by omega
  go_wp2_with fail
  refine (szInt_any B nb cb hb (left - nm) (by omega) (by omega) _).mono ?_
  by_cases k2 : left - nm < nb
  . rw [if_pos k2]
    rintro e w1 ⟨rfl, rfl⟩
    have e : ans = -1 := by rw [← Hans.out, if_pos (by omega)]
    subst e
    go_wp2
    go_ret
    exact ⟨rfl, by repeat (first | exact Below.refl _ _ | assumption | refine via0 (by assumption) ?_ | refine Below.drew ?_ | refine alloc0 ?_ _)⟩
  rw [if_neg k2]
  rintro e w1 ⟨rfl, rfl⟩
  have k2' : ¬ left - (nm : Int) - (nb : Int) < 0 := by omega
  go_wp2_with fail
  refine (szInt_any C no cc ho (left - nm - nb) (by omega) (by omega) _).mono ?_
  by_cases k3 : left - nm - nb < no
  . rw [if_pos k3]
    rintro e w1 ⟨rfl, rfl⟩
    have e : ans = -1 := by rw [← Hans.out, if_pos (by omega)]
    subst e
    go_wp2
    go_ret
    exact ⟨rfl, by repeat (first | exact Below.refl _ _ | assumption | refine via0 (by assumption) ?_ | refine Below.drew ?_ | refine alloc0 ?_ _)⟩
  rw [if_neg k3]
  rintro e w1 ⟨rfl, rfl⟩
  have k3' : ¬ left - (nm : Int) - (nb : Int) - (no : Int) < 0 := by omega
  have e : ans = left - (nm : Int) - (nb : Int) - (no : Int) := by rw [← Hans.out, if_neg (by omega)]; omega
  subst e
  go_wp2
  go_ret
  exact ⟨rfl, by repeat (first | exact Below.refl _ _ | assumption | refine via0 (by assumption) ?_ | refine Below.drew ?_ | refine alloc0 ?_ _)⟩
structure Three (n : Nat) (w : World) (x y z : Nat) (m b o : List Int) : Prop where
  nx : n <= x
  xy : x < y
  yz : y < z
  zs : z < w.heap.size
  im : In w x 0 m
  ib : In w y 0 b
  io : In w z 0 o
  tm : w.there x 0 (m.length * 1)
  tb : w.there y 0 (b.length * 1)
  to : w.there z 0 (o.length * 1)
set_option maxRecDepth 100000 in
set_option maxHeartbeats 1000000 in
theorem toGroup_any (gen : Int) (A B C : Option Addr) (ca cb cc : Nat) (m b o : List Int) (hm : m.length <= 1048576) (hb : b.length <= 1048576) (ho : o.length <= 1048576) (w : World) (hA : At w A m) (hB : At w B b) (hC : At w C o) :
    Calls Tryz.prog 91 #[.agg #[.int .i64 gen, .slice A m.length ca, .slice B b.length cb, .slice C o.length cc]] w
      fun e w' => ∃ x y z, e = .returned (.agg #[.int .i64 gen, .slice (some ⟨x, 0, none⟩) m.length m.length, .slice (some ⟨y, 0, none⟩) b.length b.length, .slice (some ⟨z, 0, none⟩) o.length o.length]) /\ Below w.heap.size w w' /\ Three w.heap.size w' x y z m b o := by
  have HA := hidP hA
  have HB := hidP hB
  have HC := hidP hC
  clear hA hB hC
  go_enter Tryz.func91, Tryz.ntmps91
  go_wp2_with fail
  refine (toInt_any A ca m hm _ (HA.out.below (by repeat (first | exact Below.refl _ _ | assumption | refine via0 (by assumption) ?_ | refine Below.drew ?_ | refine alloc0 ?_ _)))).mono ?_
  rintro e w1 ⟨rfl, g1, s1, i1, t1⟩
  have B1 : Below w.heap.size w w1 := via0 g1 (by repeat (first | exact Below.refl _ _ | assumption | refine via0 (by assumption) ?_ | refine Below.drew ?_ | refine alloc0 ?_ _))
  have p0 : Blk w1 w.heap.size 132 #[.int .i64 gen, .slice A m.length ca, .slice B b.length cb, .slice C o.length cc] := (((Blk.new w 132 #[.int .i64 gen, .slice A m.length ca, .slice B b.length cb, .slice C o.length cc]).alloc _).alloc _).below g1 (by simp; omega)
  have p1 : Blk w1 (w.heap.size + 1) 144 #[.int .i64 0, .slice none 0 0, .slice none 0 0, .slice none 0 0] := by
    have := ((Blk.new (w.alloc (.cells #[.int .i64 gen, .slice A m.length ca, .slice B b.length cb, .slice C o.length cc] 132)) 144 #[.int .i64 0, .slice none 0 0, .slice none 0 0, .slice none 0 0]).alloc _).below g1 (by simp)
    simpa using this
  have p2 : Blk w1 (w.heap.size + 1 + 1) 144 #[.int .i64 gen, .slice none 0 0, .slice none 0 0, .slice none 0 0] := by
    have := (Blk.new ((w.alloc (.cells #[.int .i64 gen, .slice A m.length ca, .slice B b.length cb, .slice C o.length cc] 132)).alloc (.cells #[.int .i64 0, .slice none 0 0, .slice none 0 0, .slice none 0 0] 144)) 144 #[.int .i64 gen, .slice none 0 0, .slice none 0 0, .slice none 0 0]).below g1 (by simp)
    simpa using this
  simp only [World.size_alloc] at s1 i1 t1 ⊢
  clear g1
  obtain ⟨u0, u1, u2, u3⟩ := p0.row4
  obtain ⟨n0, n1, n2, n3⟩ := p2.row4
  have f0 := p2.thaw 0
  have f1 := p2.thaw 1
  have f2 := p2.thaw 2
  have f3 := p2.thaw 3
  have q0 := p0.lt
  have q2 := p2.lt
  go_wp2_with fail
  have B1' : Below w.heap.size w (w1.setCell ⟨w.heap.size + 1 + 1, 1, none⟩ (.slice (some ⟨w.heap.size + 1 + 1 + 1, 0, none⟩) m.length m.length)) := bl_set B1 (by omega) _
  refine (toInt_any B cb b hb _ (HB.out.below B1')).mono ?_
  rintro e w2 ⟨rfl, g2, s2, i2, t2⟩
  rw [World.size_setCell] at s2 i2 t2
  have B2 : Below w.heap.size w w2 := via0 g2 B1'
  have r0 : Blk w2 w.heap.size 132 #[.int .i64 gen, .slice A m.length ca, .slice B b.length cb, .slice C o.length cc] := (p0.other (by omega) _ _).below g2 (by rw [World.size_setCell]; omega)
  have r1 : Blk w2 (w.heap.size + 1) 144 #[.int .i64 0, .slice none 0 0, .slice none 0 0, .slice none 0 0] := (p1.other (by omega) _ _).below g2 (by rw [World.size_setCell]; omega)
  have r2 : Blk w2 (w.heap.size + 1 + 1) 144 #[.int .i64 gen, (.slice (some ⟨w.heap.size + 1 + 1 + 1, 0, none⟩) m.length m.length), .slice none 0 0, .slice none 0 0] := (p2.setAt 1 (.slice (some ⟨w.heap.size + 1 + 1 + 1, 0, none⟩) m.length m.length)).below g2 (by rw [World.size_setCell]; omega)
  have i1' := (i1.set ⟨w.heap.size + 1 + 1, 1, none⟩ (.slice (some ⟨w.heap.size + 1 + 1 + 1, 0, none⟩) m.length m.length) (by simp)).below (by rw [World.size_setCell]; omega) g2
  have t1' := there_below (there_set t1 (w.heap.size + 1 + 1) 1 (.slice (some ⟨w.heap.size + 1 + 1 + 1, 0, none⟩) m.length m.length)) (by rw [World.size_setCell]; omega) g2
  rw [World.size_setCell]
  clear u0 u1 u2 u3 n0 n1 n2 n3 f0 f1 f2 f3 q0 q2 p0 p1 p2 g2 B1 B1' i1 t1
  obtain ⟨u0, u1, u2, u3⟩ := r0.row4
  obtain ⟨n0, n1, n2, n3⟩ := r2.row4
  have f0 := r2.thaw 0
  have f1 := r2.thaw 1
  have f2 := r2.thaw 2
  have f3 := r2.thaw 3
  have q0 := r0.lt
  have q2 := r2.lt
  generalize hX2 : w1.heap.size = X2 at *
  go_wp2_with fail
  have B2' : Below w.heap.size w (w2.setCell ⟨w.heap.size + 1 + 1, 2, none⟩ (.slice (some ⟨X2, 0, none⟩) b.length b.length)) := bl_set B2 (by omega) _
  refine (toInt_any C cc o ho _ (HC.out.below B2')).mono ?_
  rintro e w3 ⟨rfl, g3, s3, i3, t3⟩
  rw [World.size_setCell] at s3 i3 t3
  have B3 : Below w.heap.size w w3 := via0 g3 B2'
  have z1 : Blk w3 (w.heap.size + 1) 144 #[.int .i64 0, .slice none 0 0, .slice none 0 0, .slice none 0 0] := (r1.other (by omega) _ _).below g3 (by rw [World.size_setCell]; omega)
  have z2 : Blk w3 (w.heap.size + 1 + 1) 144 #[.int .i64 gen, (.slice (some ⟨w.heap.size + 1 + 1 + 1, 0, none⟩) m.length m.length), (.slice (some ⟨X2, 0, none⟩) b.length b.length), .slice none 0 0] := (r2.setAt 2 (.slice (some ⟨X2, 0, none⟩) b.length b.length)).below g3 (by rw [World.size_setCell]; omega)
  have j1 := (i1'.set ⟨w.heap.size + 1 + 1, 2, none⟩ (.slice (some ⟨X2, 0, none⟩) b.length b.length) (by simp)).below (by rw [World.size_setCell]; omega) g3
  have k1 := there_below (there_set t1' (w.heap.size + 1 + 1) 2 (.slice (some ⟨X2, 0, none⟩) b.length b.length)) (by rw [World.size_setCell]; omega) g3
  have j2 := (i2.set ⟨w.heap.size + 1 + 1, 2, none⟩ (.slice (some ⟨X2, 0, none⟩) b.length b.length) (by simp; omega)).below (by rw [World.size_setCell]; omega) g3
  have k2 := there_below (there_set t2 (w.heap.size + 1 + 1) 2 (.slice (some ⟨X2, 0, none⟩) b.length b.length)) (by rw [World.size_setCell]; omega) g3
  rw [World.size_setCell]
  clear u0 u1 u2 u3 n0 n1 n2 n3 f0 f1 f2 f3 q0 q2 r0 r1 r2 g3 B2 B2' i1' t1' i2 t2
  obtain ⟨n0, n1, n2, n3⟩ := z2.row4
  obtain ⟨c0, c1, c2, c3⟩ := z1.row4
  have f0 := z2.thaw 0
  have f1 := z2.thaw 1
  have f2 := z2.thaw 2
  have f3 := z2.thaw 3
  have h0 := z1.thaw 0
  have h1 := z1.thaw 1
  have h2 := z1.thaw 2
  have h3 := z1.thaw 3
  have q1 := z1.lt
  have q2 := z2.lt
  generalize hX3 : w2.heap.size = X3 at *
  go_wp2
  refine bodyPost_ret (v := .agg #[.int .i64 gen, (.slice (some ⟨w.heap.size + 1 + 1 + 1, 0, none⟩) m.length m.length), (.slice (some ⟨X2, 0, none⟩) b.length b.length), (.slice (some ⟨X3, 0, none⟩) o.length o.length)]) (by simp [results, Tryz.results91, go_sem, c0, c1, c2, c3]) rfl ?_
  refine ⟨w.heap.size + 1 + 1 + 1, X2, X3, rfl, ?_, ?_⟩
  . exact bl_set (bl_set (bl_set (bl_set (bl_set B3 (by omega) _) (by omega) _) (by omega) _) (by omega) _) (by omega) _
  . refine ⟨by omega, by omega, by omega, by simp only [World.size_setCell]; omega, ?_, ?_, ?_, ?_, ?_, ?_⟩
    . exact In.set (In.set (In.set (In.set (In.set j1 _ _ (by simp)) _ _ (by simp)) _ _ (by simp)) _ _ (by simp)) _ _ (by simp)
    . exact In.set (In.set (In.set (In.set (In.set j2 _ _ (by simp; omega)) _ _ (by simp; omega)) _ _ (by simp; omega)) _ _ (by simp; omega)) _ _ (by simp; omega)
    . exact In.set (In.set (In.set (In.set (In.set i3 _ _ (by simp; omega)) _ _ (by simp; omega)) _ _ (by simp; omega)) _ _ (by simp; omega)) _ _ (by simp; omega)
    . exact there_set (there_set (there_set (there_set (there_set k1 _ _ _) _ _ _) _ _ _) _ _ _) _ _ _
    . exact there_set (there_set (there_set (there_set (there_set k2 _ _ _) _ _ _) _ _ _) _ _ _) _ _ _
    . exact there_set (there_set (there_set (there_set (there_set t3 _ _ _) _ _ _) _ _ _) _ _ _) _ _ _
set_option maxRecDepth 100000 in
theorem eqGroup_same (gen : Int) (A B C A' B' C' : Option Addr) (ca cb cc ca' cb' cc' : Nat) (m b o : List Int) (hm : m.length <= 9223372036854775807) (hb : b.length <= 9223372036854775807) (ho : o.length <= 9223372036854775807) (w : World)
    (hA : At w A m) (hB : At w B b) (hC : At w C o) (hA' : At w A' m) (hB' : At w B' b) (hC' : At w C' o) :
    Calls Tryz.prog 127 #[.agg #[.int .i64 gen, .slice A m.length ca, .slice B b.length cb, .slice C o.length cc], .agg #[.int .i64 gen, .slice A' m.length ca', .slice B' b.length cb', .slice C' o.length cc']] w fun e w' => e = .returned (.bool true) /\ Below w.heap.size w w' := by
  have HA := hidP hA
  have HB := hidP hB
  have HC := hidP hC
  have HA' := hidP hA'
  have HB' := hidP hB'
  have HC' := hidP hC'
  clear hA hB hC hA' hB' hC'
  go_enter Tryz.func127, Tryz.ntmps127
  go_wp2_with fail
  have B0 : Below w.heap.size w ((w.alloc (.cells #[.int .i64 gen, .slice A m.length ca, .slice B b.length cb, .slice C o.length cc] 144)).alloc (.cells #[.int .i64 gen, .slice A' m.length ca', .slice B' b.length cb', .slice C' o.length cc'] 144)) := by repeat (first | exact Below.refl _ _ | assumption | refine via0 (by assumption) ?_ | refine Below.drew ?_ | refine alloc0 ?_ _)
  have p0 : Blk ((w.alloc (.cells #[.int .i64 gen, .slice A m.length ca, .slice B b.length cb, .slice C o.length cc] 144)).alloc (.cells #[.int .i64 gen, .slice A' m.length ca', .slice B' b.length cb', .slice C' o.length cc'] 144)) w.heap.size 144 #[.int .i64 gen, .slice A m.length ca, .slice B b.length cb, .slice C o.length cc] := (Blk.new w 144 #[.int .i64 gen, .slice A m.length ca, .slice B b.length cb, .slice C o.length cc]).alloc _
  have p1 : Blk ((w.alloc (.cells #[.int .i64 gen, .slice A m.length ca, .slice B b.length cb, .slice C o.length cc] 144)).alloc (.cells #[.int .i64 gen, .slice A' m.length ca', .slice B' b.length cb', .slice C' o.length cc'] 144)) (w.heap.size + 1) 144 #[.int .i64 gen, .slice A' m.length ca', .slice B' b.length cb', .slice C' o.length cc'] := by simpa using Blk.new (w.alloc (.cells #[.int .i64 gen, .slice A m.length ca, .slice B b.length cb, .slice C o.length cc] 144)) 144 #[.int .i64 gen, .slice A' m.length ca', .slice B' b.length cb', .slice C' o.length cc']
  refine (eqInt_same A A' ca ca' m hm _ (HA.out.below B0) (HA'.out.below B0)).mono ?_
  rintro e w1 ⟨rfl, g1⟩
  have B1 := via0 g1 B0
  have r0 := p0.below g1 p0.lt
  have r1 := p1.below g1 p1.lt
  clear p0 p1 g1 B0
  obtain ⟨u0, u1, u2, u3⟩ := r0.row4
  obtain ⟨n0, n1, n2, n3⟩ := r1.row4
  go_wp2_with fail
  refine (eqInt_same B B' cb cb' b hb _ (HB.out.below B1) (HB'.out.below B1)).mono ?_
  rintro e w2 ⟨rfl, g2⟩
  have B2 := via0 g2 B1
  have s0 := r0.below g2 r0.lt
  have s1 := r1.below g2 r1.lt
  clear r0 r1 g2 B1 u0 u1 u2 u3 n0 n1 n2 n3
  obtain ⟨u0, u1, u2, u3⟩ := s0.row4
  obtain ⟨n0, n1, n2, n3⟩ := s1.row4
  go_wp2_with fail
  refine (eqInt_same C C' cc cc' o ho _ (HC.out.below B2) (HC'.out.below B2)).mono ?_
  rintro e w3 ⟨rfl, g3⟩
  have B3 := via0 g3 B2
  go_wp2
  go_ret
  exact ⟨rfl, B3⟩
theorem cellsGroup : Tryz.prog.cellsOf 132 = 4 := by kernel_rfl
end Go.Proofs.YtaefjifcnoiplaaGreat.Gen

/-
  GroupOk of the program at this seat. No condition but that its lists have at most 1048576 numbers.
-/
namespace Go.Proofs.YtaefjifcnoiplaaGreat.Gen
open Go.ChangeShapes Go.WideShapes Go.ChangeAt Go.RowKit Go.Joins Go.Deep Base
set_option linter.unusedVariables false
set_option linter.unusedSimpArgs false
def numTo (l : List Int) (n : Nat) : Bool := (l.take n).all fun x => inB x 0 100000
theorem numTo_succ {l : List Int} {n : Nat} (h : n < l.length) : numTo l (n + 1) = (numTo l n && inB l[n] 0 100000) := by
  unfold numTo; rw [List.take_succ_eq_append_getElem h, List.all_append]; simp
theorem numTo_no {l : List Int} {n : Nat} (h : n < l.length) (hx : inB l[n] 0 100000 = false) : numTo l l.length = false := by
  unfold numTo; rw [List.take_length, List.all_eq_false]; exact ⟨l[n], List.getElem_mem h, by simp [hx]⟩
def memAt (m : List Int) (j : Nat) : Bool := inB (m.getD j 0) 0 3 && (decide (j = 0) || decide (m.getD (j - 1) 0 < m.getD j 0))
def memTo (m : List Int) (n : Nat) : Bool := (List.range n).all (memAt m)
theorem memTo_succ (m : List Int) (n : Nat) : memTo m (n + 1) = (memTo m n && memAt m n) := by simp [memTo, List.range_succ]
theorem memTo_no {m : List Int} {n : Nat} (h : n < m.length) (hx : memAt m n = false) : memTo m m.length = false := by
  unfold memTo; rw [List.all_eq_false]; exact ⟨n, by simpa using h, by simp [hx]⟩
theorem memAt_is {m : List Int} {n : Nat} (h : n < m.length) : memAt m n = (inB m[n] 0 3 && (decide (n = 0) || decide (m.getD (n - 1) 0 < m[n]))) := by simp [memAt, h]
def gokB (gen rows : Int) (m b o : List Int) : Bool :=
  inB gen 0 100000 && memTo m m.length && decide ((b.length : Int) = (m.length : Int)) && numTo b b.length && decide ((o.length : Int) = rows) && numTo o o.length
set_option maxRecDepth 100000 in
theorem areNum_any (A : Option Addr) (cap : Nat) (l : List Int) (hl : l.length <= 1048576) (w : World) (hA : At w A l) :
    Calls Tryz.prog 107 #[.slice A l.length cap] w fun e w' => e = .returned (.bool (numTo l l.length)) /\ w' = w := by
  have HA := hidP hA
  clear hA
  go_enter Tryz.func107, Tryz.ntmps107
  go_wp2
  go_loopw [7] (fun i w' => ∃ (n : Nat), i = .int .i64 (n : Int) /\ n <= l.length /\ w' = w /\ Hid (numTo l n = true)) (fun i _ => l.length - (intOf i).toNat)
  case atStart => exact ⟨0, rfl, by omega, rfl, rfl⟩
  case round =>
    obtain ⟨n, rfl, hn, rfl, hR⟩ := hrel
    by_cases hlt : n < l.length
    . obtain ⟨bb, oo, rfl, hbs, hin⟩ : ∃ b o, A = some ⟨b, o, none⟩ /\ b < wr.heap.size /\ In wr b o l := by
        rcases HA.out with h | h
        . subst h; simp at hlt
        . exact h
      have c0 := hin.getInt n hlt
      have hi0 : (0 : Int) <= (n : Int) := by omega
      have hi1 : (n : Int) < (l.length : Int) := by omega
      cases hx : inB l[n] 0 100000
      . have hF : Hid (numTo l l.length = false) := numTo_no hlt hx
        go_wp2_with (go_at_call 48; refine (within_any _ _ _ _).mono ?_; rw [hx]; rintro e w1 ⟨rfl, rfl⟩)
        go_ret
        exact ⟨by rw [hF.out]; rfl, rfl⟩
      . have hF : Hid (numTo l (n + 1) = true) := by show _ = _; rw [numTo_succ hlt, hR.out, hx]; rfl
        go_wp2_with (go_at_call 48; refine (within_any _ _ _ _).mono ?_; rw [hx]; rintro e w1 ⟨rfl, rfl⟩)
        exact ⟨⟨n + 1, by go_num, by omega, by first | rfl | trivial, hF⟩, by simp [intOf]; omega⟩
    . obtain rfl : n = l.length := by omega
      go_wp2
      go_ret
      exact ⟨by rw [hR.out]; rfl, rfl⟩
theorem isClient_any (x : Int) (w : World) : Calls Tryz.prog 174 #[.int .i64 x] w fun e w' => e = .returned (.bool (inB x 0 3)) /\ w' = w := by
  go_enter Tryz.func174, Tryz.ntmps174
  go_wp2_with fail
  refine (within_any x 0 3 _).mono ?_
  rintro e w1 ⟨rfl, rfl⟩
  go_wp2
  go_ret
  exact ⟨rfl, rfl⟩
set_option maxRecDepth 100000 in
theorem inOrder_any (A : Option Addr) (cap : Nat) (m : List Int) (hl : m.length <= 1048576) (w : World) (hA : At w A m) :
    Calls Tryz.prog 152 #[.slice A m.length cap] w fun e w' => e = .returned (.bool (memTo m m.length)) /\ w' = w := by
  have HA := hidP hA
  clear hA
  go_enter Tryz.func152, Tryz.ntmps152
  go_wp2
  go_loopw [3, 8] (fun lo i w' => ∃ (n : Nat) (y : Int), i = .int .i64 (n : Int) /\ lo = .int .i64 y /\ n <= m.length /\ 0 <= y /\ y <= 4 /\ w' = w /\ Hid (y = if n = 0 then 0 else m.getD (n - 1) 0 + 1) /\ Hid (memTo m n = true)) (fun _ i _ => m.length - (intOf i).toNat)
  case atStart => exact ⟨0, 0, rfl, rfl, by omega, by omega, by omega, rfl, rfl, rfl⟩
  case round =>
    obtain ⟨n, y, rfl, rfl, hn, hy0, hy1, rfl, hy, hR⟩ := hrel
    by_cases hlt : n < m.length
    . obtain ⟨bb, oo, rfl, hbs, hin⟩ : ∃ b o, A = some ⟨b, o, none⟩ /\ b < wr.heap.size /\ In wr b o m := by
        rcases HA.out with h | h
        . subst h; simp at hlt
        . exact h
      have c0 := hin.getInt n hlt
      have hi0 : (0 : Int) <= (n : Int) := by omega
      have hi1 : (n : Int) < (m.length : Int) := by omega
      by_cases h1 : m[n] < y
      . have hF : Hid (memTo m m.length = false) := memTo_no hlt (by
          rw [memAt_is hlt]
          have hy' := hy.out
          by_cases hz : n = 0
          . rw [if_pos hz] at hy'
            have : inB m[n] 0 3 = false := by simp [inB]; omega
            rw [this]; simp
          . rw [if_neg hz] at hy'
            have : decide (m.getD (n - 1) 0 < m[n]) = false := decide_eq_false (by omega)
            rw [this]; simp [hz])
        go_wp2_with fail
        go_ret
        exact ⟨by rw [hF.out]; rfl, rfl⟩
      . have h1' : decide (m[n] < y) = false := decide_eq_false h1
        cases hx : inB m[n] 0 3
        . have hF : Hid (memTo m m.length = false) := memTo_no hlt (by rw [memAt_is hlt, hx]; simp)
          go_wp2_with (go_at_call 174; refine (isClient_any _ _).mono ?_; rw [hx]; rintro e w1 ⟨rfl, rfl⟩)
          go_ret
          exact ⟨by rw [hF.out]; rfl, rfl⟩
        . obtain ⟨hx0, hx1⟩ : 0 <= m[n] /\ m[n] <= 3 := by simpa [inB] using hx
          have hF : Hid (memTo m (n + 1) = true) := by
            show _ = _
            rw [memTo_succ, hR.out, memAt_is hlt, hx]
            have hy' := hy.out
            by_cases hz : n = 0
            . simp [hz]
            . rw [if_neg hz] at hy'
              have : decide (m.getD (n - 1) 0 < m[n]) = true := decide_eq_true (by omega)
              rw [this]; simp
          have hO : Hid (m[n] + 1 = if n + 1 = 0 then 0 else m.getD (n + 1 - 1) 0 + 1) := by show _ = _; simp [hlt]
          go_wp2_with (go_at_call 174; refine (isClient_any _ _).mono ?_; rw [hx]; rintro e w1 ⟨rfl, rfl⟩)
          exact ⟨⟨n + 1, m[n] + 1, by go_num, rfl, by omega, by omega, by omega, by first | rfl | trivial, hO, hF⟩, by simp [intOf]; omega⟩
    . obtain rfl : n = m.length := by omega
      go_wp2
      go_ret
      exact ⟨by rw [hR.out]; rfl, rfl⟩
set_option maxRecDepth 100000 in
set_option maxHeartbeats 2000000 in
theorem implGok_any (gen rows : Int) (A B C : Option Addr) (ca cb cc : Nat) (m b o : List Int) (hl : m.length <= 1048576 /\ b.length <= 1048576 /\ o.length <= 1048576) (w : World) (hA : At w A m) (hB : At w B b) (hC : At w C o) :
    Calls Tryz.prog 106 #[.agg #[.int .i64 gen, .slice A m.length ca, .slice B b.length cb, .slice C o.length cc], .int .i64 rows] w fun e w' => e = .returned (.bool (gokB gen rows m b o)) /\ Below w.heap.size w w' := by
  have HA := hidP hA
  have HB := hidP hB
  have HC := hidP hC
  have h1 := hidP (fun W hW => areNum_any B cb b hl.2.1 W hW)
  have h2 := hidP (fun W hW => areNum_any C cc o hl.2.2 W hW)
  have h3 := hidP (fun W hW => inOrder_any A ca m hl.1 W hW)
  clear hA hB hC
  have Hok : Hid (∀ a1 a2 a3 a4 a5 a6 : Bool, a1 = inB gen 0 100000 -> a2 = memTo m m.length -> a3 = decide ((b.length : Int) = (m.length : Int)) -> a4 = numTo b b.length -> a5 = decide ((o.length : Int) = rows) -> a6 = numTo o o.length -> gokB gen rows m b o = (a1 && a2 && a3 && a4 && a5 && a6)) := by
    intro a1 a2 a3 a4 a5 a6 e1 e2 e3 e4 e5 e6
    subst e1 e2 e3 e4 e5 e6
    rfl
  generalize gokB gen rows m b o = ans at *
  generalize memTo m m.length = mt at *
  generalize numTo b b.length = nb at *
  generalize numTo o o.length = no at *
  go_enter Tryz.func106, Tryz.ntmps106
  go_wp2_with (first
    | (go_at_call 48; refine (within_any _ _ _ _).mono ?_; rintro e w' ⟨rfl, rfl⟩)
    | (go_at_call 152; refine (h3.out _ (HA.out.below (by repeat (first | exact Below.refl _ _ | assumption | refine via0 (by assumption) ?_ | refine Below.drew ?_ | refine alloc0 ?_ _)))).mono ?_; rintro e w' ⟨rfl, rfl⟩)
    | (go_at_call_of 107 (Value.slice B b.length cb); refine (h1.out _ (HB.out.below (by repeat (first | exact Below.refl _ _ | assumption | refine via0 (by assumption) ?_ | refine Below.drew ?_ | refine alloc0 ?_ _)))).mono ?_; rintro e w' ⟨rfl, rfl⟩)
    | (go_at_call_of 107 (Value.slice C o.length cc); refine (h2.out _ (HC.out.below (by repeat (first | exact Below.refl _ _ | assumption | refine via0 (by assumption) ?_ | refine Below.drew ?_ | refine alloc0 ?_ _)))).mono ?_; rintro e w' ⟨rfl, rfl⟩))
  all_goals
    go_ret
    refine ⟨?_, by repeat (first | exact Below.refl _ _ | assumption | refine via0 (by assumption) ?_ | refine Below.drew ?_ | refine alloc0 ?_ _)⟩
    rw [Hok.out _ _ _ _ _ _ rfl rfl rfl rfl rfl rfl]
    clear Hok h1 h2 h3 HA HB HC
    refine congrArg (fun b : Bool => Ending.returned (Value.bool b)) (?_ : _ = _)
    simp_all
end Go.Proofs.YtaefjifcnoiplaaGreat.Gen
