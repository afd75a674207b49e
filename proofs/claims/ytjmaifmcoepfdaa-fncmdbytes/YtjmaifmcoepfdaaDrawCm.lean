/-
  Commands and bytes of commands that are drawn. Condition: at most 1048576 bytes of code.
-/
import Derived.Test.YtjmaifmcoepfdaaDrawC2
import Derived.Test.YtjmaifmcoepfdaaDrawC3
import Derived.Test.YtjmaifmcoepfdaaDent
import Derived.Test.YtjmaifmcoepfdaaCmdB
namespace Go.Proofs.Ytjmaifmcoepfdaa.Gen
open Go.ChangeShapes Go.WideShapes Go.ChangeAt Go.RowKit Go.Joins Go.Deep Base
set_option linter.unusedVariables false
set_option linter.unusedSimpArgs false

set_option maxRecDepth 100000 in
set_option maxHeartbeats 1000000 in
theorem drawCmdOk_any (A : Option Addr) (cap : Nat) (l : List By) (hl : l.length ≤ 1048576) (hby : ∀ x ∈ l, x.right) (w : World) (hA : At w A l) :
    Calls Try.prog 50 #[.slice A l.length cap] w fun e w' => ∃ (who seq op a b c : Int) (k t : ByteArray), e = .returned (.agg #[.int .i64 who, .int .i64 seq, .int .i64 op, .int .i64 a, .int .i64 b, .int .i64 c, .string k, .string t]) ∧ k.size ≤ 40 ∧ t.size ≤ 40 ∧ Below w.heap.size w w' := by
  have HA := hidP (hA.below (alloc0 (Below.refl _ w) (.cells #[.int .i64 0, .int .i64 0, .int .i64 0, .int .i64 0, .int .i64 0, .int .i64 0, .string ⟨#[]⟩, .string ⟨#[]⟩] 35)))
  have Hby := hidP hby
  clear hA hby
  go_enter Try.func50, Try.ntmps50
  go_wp2_with fail
  refine (new_any A cap l hl Hby.out _ HA.out).mono ?_
  rintro e w1 ⟨C, rfl, hC, g1, d1⟩
  rw [World.size_alloc] at hC
  have bR := (Blk.new w 35 #[.int .i64 0, .int .i64 0, .int .i64 0, .int .i64 0, .int .i64 0, .int .i64 0, .string ⟨#[]⟩, .string ⟨#[]⟩]).below g1 (by simp)
  have HB := hidP (via0 g1 (alloc0 (Below.refl _ w) (.cells #[.int .i64 0, .int .i64 0, .int .i64 0, .int .i64 0, .int .i64 0, .int .i64 0, .string ⟨#[]⟩, .string ⟨#[]⟩] 35)))
  have HD := hidP d1
  clear g1 d1
  go_wp2_with fail
  refine (drawRight_any C A cap l _ HD.out).mono ?_
  rintro e w2 ⟨who, seq, op, a, b, c, k, t, rfl, hdc, o2, d2⟩
  obtain ⟨hk, ht⟩ := hdc.size
  replace bR := bR.only o2 (by omega)
  replace HB := hidP (HB.out.trans (o2.toBelow (by omega) HB.out.size))
  replace HD := hidP d2
  clear o2 d2 hdc
  go_wp2_with fail
  refine (spoil_any C A cap l who seq op a b c k t (by omega) (by omega) _ HD.out).mono ?_
  clear hk ht
  rintro e w3 ⟨who, seq, op, a, b, c, k, t, rfl, hk, ht, o3, d3⟩
  replace bR := bR.only o3 (by omega)
  replace HB := hidP (HB.out.trans (o3.toBelow (by omega) HB.out.size))
  clear o3 d3 HD
  have rr0 := bR.cell (i := 0) rfl
  have zz0 := bR.thaw 0
  have rr1 := bR.cell (i := 1) rfl
  have zz1 := bR.thaw 1
  have rr2 := bR.cell (i := 2) rfl
  have zz2 := bR.thaw 2
  have rr3 := bR.cell (i := 3) rfl
  have zz3 := bR.thaw 3
  have rr4 := bR.cell (i := 4) rfl
  have zz4 := bR.thaw 4
  have rr5 := bR.cell (i := 5) rfl
  have zz5 := bR.thaw 5
  have rr6 := bR.cell (i := 6) rfl
  have zz6 := bR.thaw 6
  have rr7 := bR.cell (i := 7) rfl
  have zz7 := bR.thaw 7
  have qR := bR.lt
  go_wp2
  exact bodyPost_ret (v := .agg #[.int .i64 who, .int .i64 seq, .int .i64 op, .int .i64 a, .int .i64 b, .int .i64 c, .string k, .string t]) (by simp [results, Try.results50, go_sem, rr0, rr1, rr2, rr3, rr4, rr5, rr6, rr7]) rfl ⟨who, seq, op, a, b, c, k, t, rfl, hk, ht, bl_set (bl_set (bl_set (bl_set (bl_set (bl_set (bl_set (bl_set (HB.out) (Nat.le_refl _) _) (Nat.le_refl _) _) (Nat.le_refl _) _) (Nat.le_refl _) _) (Nat.le_refl _) _) (Nat.le_refl _) _) (Nat.le_refl _) _) (Nat.le_refl _) _⟩

set_option maxRecDepth 100000 in
set_option maxHeartbeats 1000000 in
theorem drawCmdBytes_any (A : Option Addr) (cap : Nat) (l : List By) (hl : l.length ≤ 1048576) (hby : ∀ x ∈ l, x.right) (w : World) (hA : At w A l) :
    Calls Try.prog 22 #[.slice A l.length cap] w fun e w' => ∃ (who seq op a b c : Int) (k t : ByteArray), e = .returned (.agg #[.int .i64 who, .int .i64 seq, .int .i64 op, .int .i64 a, .int .i64 b, .int .i64 c, .string k, .string t]) ∧ k.size ≤ 40 ∧ t.size ≤ 40 ∧ Below w.heap.size w w' := by
  have HA := hidP (hA.below (alloc0 (Below.refl _ w) (.cells #[.int .i64 0, .int .i64 0, .int .i64 0, .int .i64 0, .int .i64 0, .int .i64 0, .string ⟨#[]⟩, .string ⟨#[]⟩] 35)))
  have Hby := hidP hby
  clear hA hby
  go_enter Try.func22, Try.ntmps22
  go_wp2_with fail
  refine (drawCmdOk_any A cap l hl Hby.out _ HA.out).mono ?_
  rintro e w1 ⟨who, seq, op, a, b, c, k, t, rfl, hk, ht, g1⟩
  have bR := (Blk.new w 35 #[.int .i64 0, .int .i64 0, .int .i64 0, .int .i64 0, .int .i64 0, .int .i64 0, .string ⟨#[]⟩, .string ⟨#[]⟩]).below g1 (by simp)
  have HB := hidP (via0 g1 (alloc0 (Below.refl _ w) (.cells #[.int .i64 0, .int .i64 0, .int .i64 0, .int .i64 0, .int .i64 0, .int .i64 0, .string ⟨#[]⟩, .string ⟨#[]⟩] 35)))
  clear g1
  have rr0 := bR.cell (i := 0) rfl
  have zz0 := bR.thaw 0
  have rr1 := bR.cell (i := 1) rfl
  have zz1 := bR.thaw 1
  have rr2 := bR.cell (i := 2) rfl
  have zz2 := bR.thaw 2
  have rr3 := bR.cell (i := 3) rfl
  have zz3 := bR.thaw 3
  have rr4 := bR.cell (i := 4) rfl
  have zz4 := bR.thaw 4
  have rr5 := bR.cell (i := 5) rfl
  have zz5 := bR.thaw 5
  have rr6 := bR.cell (i := 6) rfl
  have zz6 := bR.thaw 6
  have rr7 := bR.cell (i := 7) rfl
  have zz7 := bR.thaw 7
  have qR := bR.lt
  go_wp2
  exact bodyPost_ret (v := .agg #[.int .i64 who, .int .i64 seq, .int .i64 op, .int .i64 a, .int .i64 b, .int .i64 c, .string k, .string t]) (by simp [results, Try.results22, go_sem, rr0, rr1, rr2, rr3, rr4, rr5, rr6, rr7]) rfl ⟨who, seq, op, a, b, c, k, t, rfl, hk, ht, bl_set (bl_set (bl_set (bl_set (bl_set (bl_set (bl_set (bl_set (HB.out) (Nat.le_refl _) _) (Nat.le_refl _) _) (Nat.le_refl _) _) (Nat.le_refl _) _) (Nat.le_refl _) _) (Nat.le_refl _) _) (Nat.le_refl _) _) (Nat.le_refl _) _⟩

theorem cmO_100 (who seq op a b c : Int) (k t : ByteArray) : (cmO who seq op a b c k t).length ≤ 100 := by
  unfold cmO
  split
  · exact cmB_le (ok_ranges ‹_›)
  · simp

set_option maxRecDepth 100000 in
set_option maxHeartbeats 1000000 in
theorem drawCmdOf_any (A : Option Addr) (cap : Nat) (l : List By) (hl : l.length ≤ 1048576) (hby : ∀ x ∈ l, x.right) (w : World) (hA : At w A l) :
    Calls Try.prog 24 #[.slice A l.length cap] w fun e w' => ∃ (L : List UInt8) (a : Option Addr) (c : Nat) (k : Int), e = .returned (.tuple #[.slice a L.length c, .int .i64 k]) ∧ L.length ≤ 200 ∧ L.length ≤ c ∧ c ≤ 9223372036854775807 ∧ At w' a L ∧ I64 k ∧ Below w.heap.size w w' := by
  have HA := hidP hA
  have Hby := hidP hby
  clear hA hby
  go_enter Try.func24, Try.ntmps24
  go_wp2_with fail
  refine (new_any A cap l hl Hby.out _ HA.out).mono ?_
  rintro e w1 ⟨C, rfl, hC, g1, hD⟩
  have hlt := hD.lt
  have HD := hidP hD
  clear hD
  go_wp2_with fail
  refine (drawRight_any C A cap l _ HD.out).mono ?_
  rintro e w2 ⟨who, seq, op, a, b, c, k, t, rfl, hdc, o2, d2⟩
  obtain ⟨hk, ht⟩ := hdc.size
  have B2 := g1.trans (o2.toBelow hC g1.size)
  have s2 := o2.size
  have HD2 := hidP d2
  clear o2 d2 hdc HD g1
  go_wp2_with fail
  refine (specCmdBytes_any who seq op a b c k t (by omega) (by omega) _).mono ?_
  rintro e w3 ⟨a3, c3, rfl, g3, o3⟩
  have hlX : Hid ((cmO who seq op a b c k t).length ≤ 100) := hidP (cmO_100 who seq op a b c k t)
  generalize cmO who seq op a b c k t = X at *
  have HD3 := hidP (HD2.out.below g3)
  have HO3 := hidP o3
  have B3 := via0 g3 B2
  have s3 := g3.size
  clear g3 o3 HD2 B2
  go_wp2_with fail
  refine (drawNums_any C A cap l _ HD3.out).mono ?_
  rintro e w4 ⟨Y, a4, c4, rfl, hY, hown4, o4, d4⟩
  have s4 := o4.size
  obtain ⟨a5, c5, w5, hr5, hown5, b5⟩ := appendB (c' := c4) (show w2.heap.size ≤ w4.heap.size by omega) (owns_onlyB HO3.out o4 (by omega)) (fresh_owns hown4).at (by have := hlX.out; omega)
  have hl5 : Hid ((X ++ Y).length ≤ 150) := by show _ ≤ _; rw [List.length_append]; have := hlX.out; omega
  obtain ⟨hcap5, hcm5⟩ := owns_cap hown5
  have HS5 := hidP (sat_of_own (C := C) hown5 (by omega))
  have HD5 := hidP (d4.under b5 (by omega))
  have HB5 := hidP ((B3.trans (o4.toBelow hC B3.size)).trans (b5.mono (by omega)))
  have s5 := b5.size
  clear hown5 b5 o4 d4 hown4 HO3 HD3 B3
  generalize X ++ Y = Z0 at *
  have hZ0 := hl5.out
  go_wp2_with (at_builtin; refine wpList_append_is rfl _ _ _ rfl _ _ _ rfl rfl hr5 ?_)
  refine (dent_any C A cap l a5 c5 Z0 (by omega) hcap5 hcm5 _ HD5.out HS5.out).mono ?_
  rintro e w6 ⟨Z, a6, c6, rfl, hZ, hc6, hm6, hS6, o6, d6⟩
  have HB6 := hidP (HB5.out.trans (o6.toBelow hC HB5.out.size))
  have HI := hidP (newIn w6 ([⟨0⟩, ⟨0⟩, ⟨0⟩, ⟨1⟩, ⟨(Z.length : Int)⟩, ⟨-1⟩] : List Nu) #[.int .i64 0, .int .i64 0, .int .i64 0, .int .i64 1, .int .i64 (Z.length : Int), .int .i64 (-1)] 3 rfl)
  have al := alloc0 (Below.refl _ w6) (.cells #[.int .i64 0, .int .i64 0, .int .i64 0, .int .i64 1, .int .i64 (Z.length : Int), .int .i64 (-1)] 3)
  have HDz := hidP (d6.below al)
  have HAz := hidP (hS6.below al)
  have HBz := hidP (via0 al HB6.out)
  have s6 := o6.size
  clear al o6 d6 HD5 HS5 HB5 hr5 HB6 hS6 hl5 hcap5 hcm5
  go_wp2_with fail
  refine (pick_any C A cap l w6.heap.size 0 6 ([⟨0⟩, ⟨0⟩, ⟨0⟩, ⟨1⟩, ⟨(Z.length : Int)⟩, ⟨-1⟩] : List Nu) (by simp) (by simp) _ HDz.out (by simp) (by omega) HI.out).mono ?_
  rintro e w9 ⟨y, hy, rfl, o9, _⟩
  have hB := hidP (HBz.out.trans (o9.toBelow hC HBz.out.size))
  have hI : Hid (I64 y.n) := by
    show I64 _
    simp only [List.mem_cons, List.not_mem_nil, or_false] at hy
    rcases hy with rfl | rfl | rfl | rfl | rfl | rfl <;> refine ⟨?_, ?_⟩ <;> simp <;> omega
  have hat := hidP (HAz.out.only o9)
  clear hy o9 HAz HBz HDz HI
  go_wp2
  exact bodyPost_ret (v := .tuple #[.slice a6 Z.length c6, .int .i64 y.n]) (by simp [results, Try.results24, go_sem]) rfl ⟨Z, a6, c6, y.n, rfl, by omega, by omega, hm6, hat.out.1, hI.out, hB.out⟩
end Go.Proofs.Ytjmaifmcoepfdaa.Gen
