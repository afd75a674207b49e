/-
  Numbers, texts and bytes that are drawn. Condition: at most 1048576 bytes of code.
-/
import Derived.Test.YtjmaifmcoepfdaaRowDraw1
import Derived.Test.YtjmaifmcoepfdaaPutB
namespace Go.Proofs.Ytjmaifmcoepfdaa.Gen
open Go.ChangeShapes Go.WideShapes Go.ChangeAt Go.RowKit Go.Joins Go.Deep Base
set_option linter.unusedVariables false

theorem newIn {α : Type} [Cel α] (W : World) (L : List α) (cs : Array Value) (tt : TypeId) (h : cs.toList = flat L) : In (W.alloc (.cells cs tt)) W.heap.size 0 L := by
  intro j v hv
  rw [← h] at hv
  exact (Blk.new W tt cs).cell (i := 0 + j) (by simpa using hv)

set_option maxRecDepth 100000 in
set_option maxHeartbeats 1000000 in
theorem drawPutNum_any (A : Option Addr) (cap : Nat) (l : List By) (hl : l.length ≤ 1048576) (hby : ∀ x ∈ l, x.right) (w : World) (hA : At w A l) :
    Calls Try.prog 10 #[.slice A l.length cap] w fun e w' => ∃ n : Int, e = .returned (.int .i64 n) ∧ I64 n ∧ Below w.heap.size w w' := by
  have HA := hidP hA
  have Hby := hidP hby
  clear hA hby
  go_enter Try.func10, Try.ntmps10
  go_wp2_with fail
  refine (new_any A cap l hl Hby.out _ HA.out).mono ?_
  rintro e w1 ⟨C, rfl, hC, g1, hD⟩
  have hlt := hD.lt
  have hin := newIn w1 ([⟨0⟩, ⟨1⟩, ⟨127⟩, ⟨128⟩, ⟨300⟩, ⟨16384⟩, ⟨2147483647⟩, ⟨2147483648⟩, ⟨-1⟩, ⟨9223372036854775807⟩] : List Nu) #[.int .i64 0, .int .i64 1, .int .i64 127, .int .i64 128, .int .i64 300, .int .i64 16384, .int .i64 2147483647, .int .i64 2147483648, .int .i64 (-1), .int .i64 9223372036854775807] 3 rfl
  have HD := hidP (hD.below (alloc0 (Below.refl _ w1) (.cells #[.int .i64 0, .int .i64 1, .int .i64 127, .int .i64 128, .int .i64 300, .int .i64 16384, .int .i64 2147483647, .int .i64 2147483648, .int .i64 (-1), .int .i64 9223372036854775807] 3)))
  have HI := hidP hin
  clear hD hin
  go_wp2_with fail
  refine (pick_any C A cap l w1.heap.size 0 10 ([⟨0⟩, ⟨1⟩, ⟨127⟩, ⟨128⟩, ⟨300⟩, ⟨16384⟩, ⟨2147483647⟩, ⟨2147483648⟩, ⟨-1⟩, ⟨9223372036854775807⟩] : List Nu) (by simp) (by simp) _ HD.out (by simp) (by omega) HI.out).mono ?_
  rintro e w2 ⟨x, hx, rfl, o2, _⟩
  have hB := hidP ((alloc0 g1 _).trans (o2.toBelow hC (alloc0 g1 _).size))
  have hI : Hid (I64 x.n) := by
    show I64 _
    simp only [List.mem_cons, List.not_mem_nil, or_false] at hx
    rcases hx with rfl | rfl | rfl | rfl | rfl | rfl | rfl | rfl | rfl | rfl <;> exact ⟨by decide, by decide⟩
  go_wp2
  go_ret
  exact ⟨x.n, rfl, hI.out, hB.out⟩

set_option maxRecDepth 100000 in
set_option maxHeartbeats 1000000 in
theorem drawPutText_any (A : Option Addr) (cap : Nat) (l : List By) (hl : l.length ≤ 1048576) (hby : ∀ x ∈ l, x.right) (w : World) (hA : At w A l) :
    Calls Try.prog 12 #[.slice A l.length cap] w fun e w' => ∃ s : ByteArray, e = .returned (.string s) ∧ s.size ≤ 30 ∧ Below w.heap.size w w' := by
  have HA := hidP hA
  have Hby := hidP hby
  clear hA hby
  go_enter Try.func12, Try.ntmps12
  go_wp2_with fail
  refine (new_any A cap l hl Hby.out _ HA.out).mono ?_
  rintro e w1 ⟨C, rfl, hC, g1, hD⟩
  have hlt := hD.lt
  have hin := newIn w1 ([⟨⟨#[]⟩⟩, ⟨⟨#[97]⟩⟩, ⟨⟨#[116, 119, 111, 32, 119, 111, 114, 100, 115]⟩⟩, ⟨⟨#[0, 255]⟩⟩] : List St) #[.string ⟨#[]⟩, .string ⟨#[97]⟩, .string ⟨#[116, 119, 111, 32, 119, 111, 114, 100, 115]⟩, .string ⟨#[0, 255]⟩] 9 rfl
  have HD := hidP (hD.below (alloc0 (Below.refl _ w1) (.cells #[.string ⟨#[]⟩, .string ⟨#[97]⟩, .string ⟨#[116, 119, 111, 32, 119, 111, 114, 100, 115]⟩, .string ⟨#[0, 255]⟩] 9)))
  have HI := hidP hin
  clear hD hin
  go_wp2_with fail
  refine (pickS_any C A cap l w1.heap.size 0 4 ([⟨⟨#[]⟩⟩, ⟨⟨#[97]⟩⟩, ⟨⟨#[116, 119, 111, 32, 119, 111, 114, 100, 115]⟩⟩, ⟨⟨#[0, 255]⟩⟩] : List St) (by simp) (by simp) _ HD.out (by simp) (by omega) HI.out).mono ?_
  rintro e w2 ⟨x, hx, rfl, o2, _⟩
  have hB := hidP ((alloc0 g1 _).trans (o2.toBelow hC (alloc0 g1 _).size))
  have hI : Hid (x.s.size ≤ 30) := by
    show _ ≤ _
    simp only [List.mem_cons, List.not_mem_nil, or_false] at hx
    rcases hx with rfl | rfl | rfl | rfl <;> decide
  go_wp2
  go_ret
  exact ⟨x.s, rfl, hI.out, hB.out⟩

theorem owns_cap {B : Nat} {W : World} {a : Option Addr} {c n k : Nat} {t : TypeId} {xs : List Value} (h : W.ownsRow B t k (.slice a n c) n xs) : n ≤ c ∧ c ≤ 9223372036854775807 := by
  rcases h.2 with ⟨e, h0⟩ | ⟨g, c', cur, e, _, _, hc, hm, _⟩
  · cases e; omega
  · cases e; exact ⟨hc, by simpa [maxLen] using Nat.le_trans hm (by simp [maxLen])⟩

theorem grown_at {B : Nat} {W W' : World} {a : Option Addr} {n c k m : Nat} {t : TypeId} {xs : List Value} (hO : W.ownsRow B t k (.slice a n c) m xs) (hB : B ≤ W.heap.size) (g : W.grownBy W' (Value.slice a n c).ownBlock) : Below B W W' :=
  ⟨g.os, g.tape, g.output, g.size, fun j hj => g.block j (by omega) (owns_far hO hj)⟩
theorem only_under {C B : Nat} {w W W' : World} (h : Only C w W) (hB : w.heap.size ≤ B) (g : Below B W W') : Only C w W' :=
  ⟨g.os.trans h.os, g.tape.trans h.tape, g.output.trans h.output, Nat.le_trans h.size g.size, fun k hk hne => (g.block k (by omega)).trans (h.block k hk hne)⟩
theorem Drawn.under {W W' : World} {C cap n : Nat} {A : Option Addr} {l : List By} (h : Drawn W C A cap l) (g : Below n W W') (hC : C < n) : Drawn W' C A cap l := by
  refine ⟨?_, h.code.imp id fun ⟨b, o, e, hb, hi⟩ => ⟨b, o, e, hb, fun j v hv => (World.cell?_of_block (a := ⟨b, o + j, none⟩) (g.block b (by omega))).trans (hi j v hv)⟩, h.len, h.byte⟩
  obtain ⟨i, x, hi, hb⟩ := h.cur
  exact ⟨i, x, hi, (g.block C hC).trans hb⟩
/-- One list of bytes appended to an own one. -/
theorem appendB {B : Nat} {a a' : Option Addr} {c c' : Nat} {xs ys : List UInt8} {W : World} (hB : B ≤ W.heap.size) (hv : W.ownsRow B 5 1 (.slice a xs.length c) xs.length (flat xs)) (hy : At W a' ys) (hlen : xs.length + ys.length ≤ 3000000) :
    ∃ a2 c2 W', (Builtin.append_ #[22, 22] 22 #[.slice a xs.length c, .slice a' ys.length c']).run Try.prog W = .ok (.slice a2 (xs ++ ys).length c2) W' ∧
      W'.ownsRow B 5 1 (.slice a2 (xs ++ ys).length c2) (xs ++ ys).length (flat (xs ++ ys)) ∧ Below B W W' := by
  obtain ⟨v', W', hr, hown, hg, _⟩ := append_els (P := Try.prog) (ts := 22) Try.underlying22 infoB rfl (by decide) (by decide) B (.slice a xs.length c) xs ys a' c' W hB hv hy hlen
  obtain ⟨a2, c2, rfl, _⟩ := owns_form hown
  have e : (xs ++ ys).length = xs.length + ys.length := by simp
  exact ⟨a2, c2, W', by rw [e]; exact hr, by rw [e]; exact hown, grown_at hv hB hg⟩
theorem u8_small {x : Int} (h0 : 0 ≤ x) (h1 : x ≤ 255) : ((u8 x).toNat : Int) = x := by rw [u8_toNat]; omega

set_option maxRecDepth 100000 in
set_option maxHeartbeats 2000000 in
theorem drawNums_any (C : Nat) (A : Option Addr) (cap : Nat) (l : List By) (w : World) (hD : Drawn w C A cap l) :
    Calls Try.prog 47 #[.pointer (some ⟨C, 0, none⟩)] w fun e w' => ∃ (L : List UInt8) (a : Option Addr) (c : Nat), e = .returned (.slice a L.length c) ∧ L.length ≤ 30 ∧ w'.ownsRow w.heap.size 5 1 (.slice a L.length c) L.length (flat L) ∧ Only C w w' ∧ Drawn w' C A cap l := by
  have own0 : Hid ((w.alloc (.cells #[] 5)).ownsRow w.heap.size 5 1 (.slice (some ⟨w.heap.size, 0, none⟩) 0 0) 0 []) := by
    refine ⟨by simp, .inr ⟨w.heap.size, 0, #[], rfl, Nat.le_refl _, Blk.new w 5 #[], by omega, by simp [maxLen], rfl, rfl⟩⟩
  have hC := hD.lt
  have HD0 := hidP (hD.below (alloc0 (Below.refl _ w) (.cells #[] 5)))
  clear hD
  go_enter Try.func47, Try.ntmps47
  go_wp2
  go_loopw [3, 4] (fun v i W => ∃ (n : Nat) (xs : List UInt8) (a : Option Addr) (c : Nat), i = .int .i64 (n : Int) ∧ v = .slice a xs.length c ∧ n ≤ 4 ∧ Hid (xs.length ≤ 5 * n) ∧ Hid (W.ownsRow w.heap.size 5 1 (.slice a xs.length c) xs.length (flat xs)) ∧ Hid (Only C w W) ∧ Hid (Drawn W C A cap l)) (fun _ i _ => 4 - (intOf i).toNat)
  case atStart => exact ⟨0, [], _, _, rfl, rfl, by omega, by show 0 ≤ 0; omega, own0, Only.of_below (alloc0 (Below.refl _ w) _), HD0⟩
  case round =>
    obtain ⟨n, xs, a, c, rfl, rfl, hn, hxl, hO, hOn, hDr⟩ := hrel
    go_wp2_with fail
    refine (below_any C A cap l 4 (by omega) (by omega) _ hDr.out).mono ?_
    rintro e w1 ⟨x, rfl, hx0, hx1, o1, d1⟩
    have HO1 := hidP (owns_onlyB hO.out o1 hC)
    have HN1 := hidP (hOn.out.trans o1)
    have s1 : w.heap.size ≤ w1.heap.size := HN1.out.size
    by_cases hlt : (n : Int) < x
    · have HD1 := hidP (d1.below (alloc0 (Below.refl _ w1) (.cells #[.int .i64 0, .int .i64 1, .int .i64 127, .int .i64 128, .int .i64 300, .int .i64 2147483647] 3)))
      have HI := hidP (newIn w1 ([⟨0⟩, ⟨1⟩, ⟨127⟩, ⟨128⟩, ⟨300⟩, ⟨2147483647⟩] : List Nu) #[.int .i64 0, .int .i64 1, .int .i64 127, .int .i64 128, .int .i64 300, .int .i64 2147483647] 3 rfl)
      have HO2 := hidP (owns_alloc HO1.out (.cells #[.int .i64 0, .int .i64 1, .int .i64 127, .int .i64 128, .int .i64 300, .int .i64 2147483647] 3))
      have HN2 := hidP (HN1.out.below (alloc0 (Below.refl _ w1) (.cells #[.int .i64 0, .int .i64 1, .int .i64 127, .int .i64 128, .int .i64 300, .int .i64 2147483647] 3)))
      clear hO hOn hDr o1 d1 HO1 HN1
      go_wp2_with fail
      refine (pick_any C A cap l w1.heap.size 0 6 ([⟨0⟩, ⟨1⟩, ⟨127⟩, ⟨128⟩, ⟨300⟩, ⟨2147483647⟩] : List Nu) (by simp) (by simp) _ HD1.out (by simp) (by omega) HI.out).mono ?_
      rintro e w2 ⟨y, _, rfl, o2, d2⟩
      have HO3 := hidP (owns_onlyB HO2.out o2 hC)
      have HN3 := hidP (HN2.out.trans o2)
      have HD2 := hidP d2
      clear HO2 HN2 HD1 HI o2 d2
      go_wp2_with fail
      refine (specPutNum_any y.n _).mono ?_
      rintro e w3 ⟨a3, c3, rfl, g3, o3⟩
      have s3 : w.heap.size ≤ w3.heap.size := Nat.le_trans HN3.out.size g3.size
      obtain ⟨a4, c4, w4, hr4, hown4, b4⟩ := appendB (c' := c3) s3 (owns_below HO3.out g3) (fresh_owns o3).at (by have := hxl.out; have := numI_le y.n; omega)
      have HO4 := hidP hown4
      have HN4 := hidP (only_under (HN3.out.below g3) (Nat.le_refl _) b4)
      have HD4 := hidP ((HD2.out.below g3).under b4 hC)
      have hl4 : Hid ((xs ++ numI y.n).length ≤ 5 * (n + 1)) := by show _ ≤ _; rw [List.length_append]; have := hxl.out; have := numI_le y.n; omega
      clear hown4 b4 g3 o3 HO3 HN3 HD2
      generalize xs ++ numI y.n = ys at *
      go_wp2_with (at_builtin; refine wpList_append_is rfl _ _ _ rfl _ _ _ rfl rfl hr4 ?_)
      exact ⟨⟨n + 1, ys, a4, c4, by go_num, rfl, by omega, hl4, HO4, HN4, HD4⟩, by simp [intOf]; omega⟩
    · have HD1 := hidP d1
      have hxl' : Hid (xs.length ≤ 20) := hidP (by have := hxl.out; omega)
      clear hO hOn hDr o1 d1 hxl
      go_wp2_with fail
      refine (once_any C A cap l 3 (by omega) (by omega) _ HD1.out).mono ?_
      rintro e w2 ⟨q, rfl, o2, d2⟩
      have HO2 := hidP (owns_onlyB HO1.out o2 hC)
      have HN2 := hidP (HN1.out.trans o2)
      have s2 : w.heap.size ≤ w2.heap.size := HN2.out.size
      cases q with
      | false =>
        clear HO1 HN1 HD1 o2
        have HD2 := hidP d2
        clear d2
        go_wp2
        go_ret
        exact ⟨xs, a, c, rfl, by have := hxl'.out; omega, HO2.out, HN2.out, HD2.out⟩
      | true =>
        have HD2 := hidP (d2.below (alloc0 (Below.refl _ w2) (.cells #[.int .i64 0, .int .i64 128, .int .i64 255] 3)))
        have HI := hidP (newIn w2 ([⟨0⟩, ⟨128⟩, ⟨255⟩] : List Nu) #[.int .i64 0, .int .i64 128, .int .i64 255] 3 rfl)
        have HO3 := hidP (owns_alloc HO2.out (.cells #[.int .i64 0, .int .i64 128, .int .i64 255] 3))
        have HN3 := hidP (HN2.out.below (alloc0 (Below.refl _ w2) (.cells #[.int .i64 0, .int .i64 128, .int .i64 255] 3)))
        clear HO1 HN1 HD1 o2 d2 HO2 HN2
        go_wp2_with fail
        refine (pick_any C A cap l w2.heap.size 0 3 ([⟨0⟩, ⟨128⟩, ⟨255⟩] : List Nu) (by simp) (by simp) _ HD2.out (by simp) (by omega) HI.out).mono ?_
        rintro e w3 ⟨y, hy, rfl, o3, d3⟩
        have hy0 : 0 ≤ y.n ∧ y.n ≤ 255 := by
          simp only [List.mem_cons, List.not_mem_nil, or_false] at hy
          rcases hy with rfl | rfl | rfl <;> exact ⟨by decide, by decide⟩
        obtain ⟨hy1, hy2⟩ := hy0
        have HO4 := hidP (owns_onlyB HO3.out o3 hC)
        have HN4 := hidP (HN3.out.trans o3)
        have HD3 := hidP d3
        clear HO3 HN3 HD2 HI o3 d3 hy
        go_wp2_with fail
        refine (below_any C A cap l 3 (by omega) (by omega) _ HD3.out).mono ?_
        rintro e w4 ⟨z, rfl, hz0, hz1, o4, d4⟩
        have HO5 := hidP (owns_onlyB HO4.out o4 hC)
        have HN5 := hidP (HN4.out.trans o4)
        have hat : At (w4.alloc (.cells #[.int .u8 y.n, .int .u8 z] 5)) (some ⟨w4.heap.size, 0, none⟩) [Go.Proofs.Ytjmaifmcoepfdaa.Gen.u8 y.n, Go.Proofs.Ytjmaifmcoepfdaa.Gen.u8 z] := .inr ⟨_, _, rfl, by simp, newIn w4 [Go.Proofs.Ytjmaifmcoepfdaa.Gen.u8 y.n, Go.Proofs.Ytjmaifmcoepfdaa.Gen.u8 z] #[.int .u8 y.n, .int .u8 z] 5 (by
          show [Value.int .u8 y.n, Value.int .u8 z] = [Value.int .u8 ((Go.Proofs.Ytjmaifmcoepfdaa.Gen.u8 y.n).toNat : Int), Value.int .u8 ((Go.Proofs.Ytjmaifmcoepfdaa.Gen.u8 z).toNat : Int)]
          rw [u8_small hy1 hy2, u8_small hz0 (by omega)])⟩
        have al := alloc0 (Below.refl _ w4) (.cells #[.int .u8 y.n, .int .u8 z] 5)
        have s4 : w.heap.size ≤ w4.heap.size := HN5.out.size
        obtain ⟨a6, c6, w6, hr6, hown6, b6⟩ := appendB (c' := 2) (by simp; omega) (owns_below HO5.out al) hat (by have := hxl'.out; simp; omega)
        have HO6 := hidP hown6
        have HN6 := hidP (only_under (HN5.out.below al) (Nat.le_refl _) b6)
        have HD6 := hidP ((d4.below al).under b6 hC)
        have hl6 : Hid ((xs ++ [Go.Proofs.Ytjmaifmcoepfdaa.Gen.u8 y.n, Go.Proofs.Ytjmaifmcoepfdaa.Gen.u8 z]).length ≤ 30) := by show _ ≤ _; rw [List.length_append]; have := hxl'.out; simp; omega
        have hr6' : (Builtin.append_ #[22, 22] 22 #[.slice a xs.length c, .slice (some ⟨w4.heap.size, 0, none⟩) 2 2]).run Try.prog (w4.alloc (.cells #[.int .u8 y.n, .int .u8 z] 5)) = .ok (.slice a6 (xs ++ [Go.Proofs.Ytjmaifmcoepfdaa.Gen.u8 y.n, Go.Proofs.Ytjmaifmcoepfdaa.Gen.u8 z]).length c6) w6 := hr6
        clear hown6 b6 hat al HO5 HN5 HO4 HN4 HD3 o4 d4 hr6
        generalize xs ++ [Go.Proofs.Ytjmaifmcoepfdaa.Gen.u8 y.n, Go.Proofs.Ytjmaifmcoepfdaa.Gen.u8 z] = ys at *
        go_wp2_with (at_builtin; refine wpList_append_is rfl _ _ _ rfl _ _ _ rfl rfl hr6' ?_)
        go_ret
        exact ⟨ys, a6, c6, rfl, hl6.out, HO6.out, HN6.out, HD6.out⟩

set_option maxRecDepth 100000 in
set_option maxHeartbeats 2000000 in
theorem drawGetNum_any (A : Option Addr) (cap : Nat) (l : List By) (hl : l.length ≤ 1048576) (hby : ∀ x ∈ l, x.right) (w : World) (hA : At w A l) :
    Calls Try.prog 18 #[.slice A l.length cap] w fun e w' => ∃ (L : List UInt8) (a : Option Addr) (c : Nat) (k : Int), e = .returned (.tuple #[.slice a L.length c, .int .i64 k]) ∧ L.length ≤ 200 ∧ L.length ≤ c ∧ c ≤ 9223372036854775807 ∧ At w' a L ∧ I64 k ∧ Below w.heap.size w w' := by
  have HA := hidP hA
  have Hby := hidP hby
  clear hA hby
  go_enter Try.func18, Try.ntmps18
  go_wp2_with fail
  refine (new_any A cap l hl Hby.out _ HA.out).mono ?_
  rintro e w1 ⟨C, rfl, hC, g1, hD⟩
  have hlt := hD.lt
  have HD := hidP hD
  clear hD
  go_wp2_with fail
  refine (drawNums_any C A cap l _ HD.out).mono ?_
  rintro e w2 ⟨L, a, c, rfl, hL, hown, o2, d2⟩
  obtain ⟨hc1, hc2⟩ := owns_cap hown
  have s12 := o2.size
  have hnl : (([⟨0⟩, ⟨0⟩, ⟨1⟩, ⟨(L.length : Int)⟩, ⟨(L.length : Int) - 5⟩, ⟨-1⟩, ⟨9223372036854775807⟩] : List Nu)).length = 7 := rfl
  have HI := hidP (newIn w2 ([⟨0⟩, ⟨0⟩, ⟨1⟩, ⟨(L.length : Int)⟩, ⟨(L.length : Int) - 5⟩, ⟨-1⟩, ⟨9223372036854775807⟩] : List Nu) #[.int .i64 0, .int .i64 0, .int .i64 1, .int .i64 (L.length : Int), .int .i64 ((L.length : Int) - 5), .int .i64 (-1), .int .i64 9223372036854775807] 3 rfl)
  have al := alloc0 (Below.refl _ w2) (.cells #[.int .i64 0, .int .i64 0, .int .i64 1, .int .i64 (L.length : Int), .int .i64 ((L.length : Int) - 5), .int .i64 (-1), .int .i64 9223372036854775807] 3)
  have HD2 := hidP (d2.below al)
  have HO2 := hidP (owns_below hown al)
  have HB2 := hidP (via0 al (g1.trans (o2.toBelow hC g1.size)))
  clear d2 o2 hown al g1 HD hnl
  go_wp2_with fail
  refine (pick_any C A cap l w2.heap.size 0 7 [⟨0⟩, ⟨0⟩, ⟨1⟩, ⟨(L.length : Int)⟩, ⟨(L.length : Int) - 5⟩, ⟨-1⟩, ⟨9223372036854775807⟩] (by simp) (by simp) _ HD2.out (by simp) (by omega) HI.out).mono ?_
  rintro e w3 ⟨x, hx, rfl, o3, _⟩
  have hB := hidP (HB2.out.trans (o3.toBelow hC HB2.out.size))
  have hat := hidP ((fresh_owns (owns_onlyB HO2.out o3 hlt)).at)
  have hI : Hid (I64 x.n) := by
    show I64 _
    simp only [List.mem_cons, List.not_mem_nil, or_false] at hx
    rcases hx with rfl | rfl | rfl | rfl | rfl | rfl | rfl <;> refine ⟨?_, ?_⟩ <;> simp <;> omega
  clear hx o3 HO2 HB2 HD2 HI
  go_wp2
  exact bodyPost_ret (v := .tuple #[.slice a L.length c, .int .i64 x.n]) (by simp [results, Try.results18, go_sem]) rfl ⟨L, a, c, x.n, rfl, by omega, hc1, hc2, hat.out, hI.out, hB.out⟩

/-- A list of bytes that lies apart from block C. -/
def Sat (C : Nat) (w : World) (a : Option Addr) (L : List UInt8) : Prop := At w a L ∧ (L = [] ∨ ∀ b o, a = some ⟨b, o, none⟩ → b ≠ C)
theorem Sat.below {C : Nat} {w w' : World} {a : Option Addr} {L : List UInt8} (h : Sat C w a L) (g : Below w.heap.size w w') : Sat C w' a L := ⟨h.1.below g, h.2⟩
theorem Sat.only {C : Nat} {w w' : World} {a : Option Addr} {L : List UInt8} (h : Sat C w a L) (g : Only C w w') : Sat C w' a L := by
  refine ⟨?_, h.2⟩
  rcases h.1 with e | ⟨b, o, e, hb, hi⟩
  · exact .inl e
  · rcases h.2 with e2 | h2
    · exact .inl e2
    · exact .inr ⟨b, o, e, Nat.lt_of_lt_of_le hb g.size, fun j v hv => (g.cell (p := ⟨b, o + j, none⟩) hb (h2 b o e)).trans (hi j v hv)⟩
theorem sat_of_own {B C : Nat} {w : World} {a : Option Addr} {c : Nat} {L : List UInt8} {t : TypeId} (h : w.ownsRow B t 1 (.slice a L.length c) L.length (flat L)) (hC : C < B) : Sat C w a L := by
  refine ⟨(fresh_owns h).at, ?_⟩
  rcases h.2 with ⟨e, h0⟩ | ⟨g, c', cur, e, hB, _⟩
  · exact .inl (List.length_eq_zero_iff.1 h0)
  · cases e
    refine .inr fun b o e2 => ?_
    cases e2
    omega
theorem cut_to (a : Option Addr) (n c m : Nat) (hm : m ≤ c) (hc : c ≤ 9223372036854775807) (W : World) :
    (Instr.slice 22 (.slice a n c) none (some (.int .i64 (m : Int))) none).run Try.prog W = .ok (.slice a m c) W := by
  obtain ⟨i0, hi, hz0, hz1, hz2⟩ := info_parts infoB
  have hsz : ∀ W : World, (sizeOf 5).run Try.prog W = .ok 1 W := fun W => by simp [sizeOf, typeInfo, hi, hz1]
  cases a with
  | none => simp [Instr.slice, run_underlying Try.underlying22, Instr.sliceBounds, Instr.sliceBound, asIntOf, hsz, hm]
  | some v =>
    simp [Instr.slice, run_underlying Try.underlying22, Instr.sliceBounds, Instr.sliceBound, asIntOf, hsz, hm]
    intro _
    rfl
theorem take_at {w : World} {a : Option Addr} {L : List UInt8} (h : At w a L) (n : Nat) : At w a (L.take n) := by
  rcases h with rfl | ⟨b, o, e, hb, hi⟩
  · exact .inl (by simp)
  · refine .inr ⟨b, o, e, hb, ?_⟩
    intro j v hv
    refine hi j v ?_
    rw [flat_map1] at hv ⊢
    rw [List.getElem?_map] at hv ⊢
    have hj : j < (L.take n).length := by
      cases hq : (L.take n)[j]? with
      | none => rw [hq] at hv; cases hv
      | some x => exact (List.getElem?_eq_some_iff.1 hq).1
    rw [List.getElem?_take_of_lt (by rw [List.length_take] at hj; omega)] at hv
    exact hv

theorem sat_take {C : Nat} {w : World} {a : Option Addr} {L : List UInt8} (h : Sat C w a L) (n : Nat) : Sat C w a (L.take n) := ⟨take_at h.1 n, h.2.imp (fun e => by rw [e]; simp) id⟩

set_option maxRecDepth 100000 in
set_option maxHeartbeats 2000000 in
theorem drawGetText_any (A : Option Addr) (cap : Nat) (l : List By) (hl : l.length ≤ 1048576) (hby : ∀ x ∈ l, x.right) (w : World) (hA : At w A l) :
    Calls Try.prog 20 #[.slice A l.length cap] w fun e w' => ∃ (L : List UInt8) (a : Option Addr) (c : Nat) (k : Int), e = .returned (.tuple #[.slice a L.length c, .int .i64 k]) ∧ L.length ≤ 200 ∧ L.length ≤ c ∧ c ≤ 9223372036854775807 ∧ At w' a L ∧ I64 k ∧ Below w.heap.size w w' := by
  have HA := hidP hA
  have Hby := hidP hby
  clear hA hby
  go_enter Try.func20, Try.ntmps20
  go_wp2_with fail
  refine (new_any A cap l hl Hby.out _ HA.out).mono ?_
  rintro e w1 ⟨C, rfl, hC, g1, hD⟩
  have hlt := hD.lt
  have hin := newIn w1 ([⟨⟨#[]⟩⟩, ⟨⟨#[97, 98, 99]⟩⟩, ⟨⟨#[120]⟩⟩] : List St) #[.string ⟨#[]⟩, .string ⟨#[97, 98, 99]⟩, .string ⟨#[120]⟩] 9 rfl
  have HD := hidP (hD.below (alloc0 (Below.refl _ w1) (.cells #[.string ⟨#[]⟩, .string ⟨#[97, 98, 99]⟩, .string ⟨#[120]⟩] 9)))
  have HI := hidP hin
  clear hD hin
  go_wp2_with fail
  refine (pickS_any C A cap l w1.heap.size 0 3 ([⟨⟨#[]⟩⟩, ⟨⟨#[97, 98, 99]⟩⟩, ⟨⟨#[120]⟩⟩] : List St) (by simp) (by simp) _ HD.out (by simp) (by omega) HI.out).mono ?_
  rintro e w2 ⟨x, hx, rfl, o2, d2⟩
  have hxs : x.s.size ≤ 30 := by
    simp only [List.mem_cons, List.not_mem_nil, or_false] at hx
    rcases hx with rfl | rfl | rfl <;> decide
  have B2 := (alloc0 g1 (.cells #[.string ⟨#[]⟩, .string ⟨#[97, 98, 99]⟩, .string ⟨#[120]⟩] 9)).trans (o2.toBelow hC (alloc0 g1 _).size)
  have HD2 := hidP d2
  have s2 : w1.heap.size < w2.heap.size := by have := o2.size; simp at this; omega
  clear o2 d2 hx HI HD g1
  go_wp2_with fail
  refine (specPutText_any x.s (by omega) _).mono ?_
  rintro e w3 ⟨a3, c3, rfl, g3, o3⟩
  have hlX : Hid ((txtB x.s).length ≤ 35) := by show _ ≤ _; rw [txtB_length]; have := numB_le (n := x.s.size) (by omega); omega
  generalize txtB x.s = X at *
  have HD3 := hidP (HD2.out.below g3)
  have HO3 := hidP o3
  have B3 := via0 g3 B2
  have s3 := g3.size
  clear g3 o3 HD2
  go_wp2_with fail
  refine (drawNums_any C A cap l _ HD3.out).mono ?_
  rintro e w4 ⟨Y, a4, c4, rfl, hY, hown4, o4, d4⟩
  have s4 := o4.size
  obtain ⟨a5, c5, w5, hr5, hown5, b5⟩ := appendB (c' := c4) (show w2.heap.size ≤ w4.heap.size by omega) (owns_onlyB HO3.out o4 (by omega)) (fresh_owns hown4).at (by have := hlX.out; omega)
  have hl5 : Hid ((X ++ Y).length ≤ 100) := by show _ ≤ _; rw [List.length_append]; have := hlX.out; omega
  have HO5 := hidP hown5
  obtain ⟨hcap5, hcm5⟩ := owns_cap hown5
  have HD5 := hidP (d4.under b5 (by omega))
  have HB5 := hidP ((B3.trans (o4.toBelow hC B3.size)).trans (b5.mono (by omega)))
  have s5 := b5.size
  clear hown5 b5 o4 d4 hown4 HO3 HD3 B3
  generalize X ++ Y = Z at *
  go_wp2_with (at_builtin; refine wpList_append_is rfl _ _ _ rfl _ _ _ rfl rfl hr5 ?_)
  refine (once_any C A cap l 4 (by omega) (by omega) _ HD5.out).mono ?_
  rintro e w6 ⟨q, rfl, o6, d6⟩
  have HO6 := hidP (owns_onlyB HO5.out o6 (by omega))
  have HB6 := hidP (HB5.out.trans (o6.toBelow hC HB5.out.size))
  have s6 := o6.size
  have HD6 := hidP d6
  clear o6 d6 HO5 HD5 HB5 hr5
  have hZ := hl5.out
  cases q with
  | false =>
    have HA6 := hidP (sat_of_own (C := C) HO6.out (by omega))
    have HI := hidP (newIn w6 ([⟨0⟩, ⟨0⟩, ⟨0⟩, ⟨1⟩, ⟨(Z.length : Int)⟩, ⟨-1⟩] : List Nu) #[.int .i64 0, .int .i64 0, .int .i64 0, .int .i64 1, .int .i64 (Z.length : Int), .int .i64 (-1)] 3 rfl)
    have al := alloc0 (Below.refl _ w6) (.cells #[.int .i64 0, .int .i64 0, .int .i64 0, .int .i64 1, .int .i64 (Z.length : Int), .int .i64 (-1)] 3)
    have HDz := hidP (HD6.out.below al)
    have HAz := hidP (HA6.out.below al)
    have HBz := hidP (via0 al HB6.out)
    clear al
    go_wp2_with fail
    refine (pick_any C A cap l w6.heap.size 0 6 [⟨0⟩, ⟨0⟩, ⟨0⟩, ⟨1⟩, ⟨(Z.length : Int)⟩, ⟨-1⟩] (by simp) (by simp) _ HDz.out (by simp) (by omega) HI.out).mono ?_
    rintro e w9 ⟨y, hy, rfl, o9, _⟩
    have hB := hidP (HBz.out.trans (o9.toBelow hC HBz.out.size))
    have hI : Hid (I64 y.n) := by
      show I64 _
      simp only [List.mem_cons, List.not_mem_nil, or_false] at hy
      rcases hy with rfl | rfl | rfl | rfl | rfl | rfl <;> refine ⟨?_, ?_⟩ <;> simp <;> omega
    have hat := hidP (HAz.out.only o9)
    clear hy o9 HAz HBz HDz HI
    go_wp2
    exact bodyPost_ret (v := .tuple #[.slice a5 Z.length c5, .int .i64 y.n]) (by simp [results, Try.results20, go_sem]) rfl ⟨Z, a5, c5, y.n, rfl, by omega, by omega, hcm5, hat.out.1, hI.out, hB.out⟩
  | true =>
    go_wp2_with fail
    refine (below_any C A cap l ((Z.length : Int) + 1) (by omega) (by omega) _ HD6.out).mono ?_
    rintro e w7 ⟨m, rfl, hm0, hm1, o7, d7⟩
    obtain ⟨m, rfl⟩ : ∃ n : Nat, m = (n : Int) := ⟨m.toNat, by omega⟩
    have hle : m ≤ Z.length := by omega
    have HA6 := hidP (sat_take (sat_of_own (C := C) (owns_onlyB HO6.out o7 (by omega)) (by omega)) m)
    have HB7 := hidP (HB6.out.trans (o7.toBelow hC HB6.out.size))
    have HD7 := hidP d7
    have s7 := o7.size
    have hcut : ∀ W : World, (Instr.slice 22 (.slice a5 Z.length c5) none (some (.int .i64 (m : Int))) none).run Try.prog W = .ok (.slice a5 (Z.take m).length c5) W := fun W => by
      have e : (Z.take m).length = m := by rw [List.length_take]; omega
      rw [e]
      exact cut_to a5 Z.length c5 m (by omega) hcm5 W
    have hlm : (Z.take m).length ≤ 100 := by rw [List.length_take]; omega
    have hlc : (Z.take m).length ≤ c5 := by rw [List.length_take]; omega
    clear o7 d7 HO6 HB6 HD6
    generalize Z.take m = L at *
    have HI := hidP (newIn w7 ([⟨0⟩, ⟨0⟩, ⟨0⟩, ⟨1⟩, ⟨(L.length : Int)⟩, ⟨-1⟩] : List Nu) #[.int .i64 0, .int .i64 0, .int .i64 0, .int .i64 1, .int .i64 (L.length : Int), .int .i64 (-1)] 3 rfl)
    have al := alloc0 (Below.refl _ w7) (.cells #[.int .i64 0, .int .i64 0, .int .i64 0, .int .i64 1, .int .i64 (L.length : Int), .int .i64 (-1)] 3)
    have HDz := hidP (HD7.out.below al)
    have HAz := hidP (HA6.out.below al)
    have HBz := hidP (via0 al HB7.out)
    clear al
    go_wp2_with fail
    refine (pick_any C A cap l w7.heap.size 0 6 [⟨0⟩, ⟨0⟩, ⟨0⟩, ⟨1⟩, ⟨(L.length : Int)⟩, ⟨-1⟩] (by simp) (by simp) _ HDz.out (by simp) (by omega) HI.out).mono ?_
    rintro e w9 ⟨y, hy, rfl, o9, _⟩
    have hB := hidP (HBz.out.trans (o9.toBelow hC HBz.out.size))
    have hI : Hid (I64 y.n) := by
      show I64 _
      simp only [List.mem_cons, List.not_mem_nil, or_false] at hy
      rcases hy with rfl | rfl | rfl | rfl | rfl | rfl <;> refine ⟨?_, ?_⟩ <;> simp <;> omega
    have hat := hidP (HAz.out.only o9)
    clear hy o9 HAz HBz HDz HI
    go_wp2
    exact bodyPost_ret (v := .tuple #[.slice a5 L.length c5, .int .i64 y.n]) (by simp [results, Try.results20, go_sem]) rfl ⟨L, a5, c5, y.n, rfl, by omega, by omega, hcm5, hat.out.1, hI.out, hB.out⟩
end Go.Proofs.Ytjmaifmcoepfdaa.Gen
