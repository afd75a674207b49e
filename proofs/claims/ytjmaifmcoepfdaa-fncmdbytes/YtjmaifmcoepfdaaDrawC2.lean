/-
  Commands that are drawn, right ones.
-/
import Derived.Test.YtjmaifmcoepfdaaDrawC
namespace Go.Proofs.Ytjmaifmcoepfdaa.Gen
open Go.ChangeShapes Go.WideShapes Go.ChangeAt Go.RowKit Go.Joins Go.Deep Base
set_option linter.unusedVariables false
set_option linter.unusedSimpArgs false

/-- What a drawn right command is. -/
def Dc (who seq op a b c : Int) (k t : ByteArray) : Prop := (who = -1 ∧ seq = 0 ∧ op = 0 ∧ a = 0 ∧ b = 0 ∧ c = 0 ∧ k = ⟨#[]⟩ ∧ t = ⟨#[]⟩) ∨ (0 ≤ who ∧ who ≤ 3 ∧ 1 ≤ seq ∧ seq ≤ 6 ∧ Bd op a b c k t)
theorem Dc.size {who seq op a b c : Int} {k t : ByteArray} (h : Dc who seq op a b c k t) : k.size ≤ 30 ∧ t.size ≤ 30 := by
  rcases h with ⟨_, _, _, _, _, _, rfl, rfl⟩ | ⟨_, _, _, _, h⟩
  · exact ⟨by decide, by decide⟩
  · exact ⟨h.k.le, h.t.le⟩

set_option maxRecDepth 100000 in
set_option maxHeartbeats 4000000 in
theorem drawRight_any (C : Nat) (A : Option Addr) (cap : Nat) (l : List By) (w : World) (hD : Drawn w C A cap l) :
    Calls Try.prog 54 #[.pointer (some ⟨C, 0, none⟩)] w fun e w' => ∃ (who seq op a b c : Int) (k t : ByteArray), e = .returned (.agg #[.int .i64 who, .int .i64 seq, .int .i64 op, .int .i64 a, .int .i64 b, .int .i64 c, .string k, .string t]) ∧ Dc who seq op a b c k t ∧ Only C w w' ∧ Drawn w' C A cap l := by
  have hC := hD.lt
  have HD0 := hidP hD
  clear hD
  have bR := Blk.new w 35 #[.int .i64 0, .int .i64 0, .int .i64 0, .int .i64 0, .int .i64 0, .int .i64 0, .string ⟨#[]⟩, .string ⟨#[]⟩]
  have HO := hidP (Only.of_below (c := C) (alloc0 (Below.refl _ w) (.cells #[.int .i64 0, .int .i64 0, .int .i64 0, .int .i64 0, .int .i64 0, .int .i64 0, .string ⟨#[]⟩, .string ⟨#[]⟩] 35)))
  have HD := hidP (HD0.out.below (alloc0 (Below.refl _ w) (.cells #[.int .i64 0, .int .i64 0, .int .i64 0, .int .i64 0, .int .i64 0, .int .i64 0, .string ⟨#[]⟩, .string ⟨#[]⟩] 35)))
  clear HD0
  go_enter Try.func54, Try.ntmps54
  go_wp2_with fail
  refine (once_any C A cap l 10 (by omega) (by omega) _ (HD.out)).mono ?_
  rintro e w1 ⟨q, rfl, o_, d_⟩
  replace bR : Blk w1 w.heap.size 35 #[.int .i64 0, .int .i64 0, .int .i64 0, .int .i64 0, .int .i64 0, .int .i64 0, .string ⟨#[]⟩, .string ⟨#[]⟩] := (bR).only o_ (by omega)
  have q_ := o_.size
  try simp only [World.size_alloc, World.size_setCell] at q_
  replace HO := hidP ((HO.out).trans o_)
  replace HD := hidP d_
  clear o_ d_
  cases q with
  | true =>
    have rr0 := bR.cell (i := 0) rfl
    have rr1 := bR.cell (i := 1) rfl
    have rr2 := bR.cell (i := 2) rfl
    have rr3 := bR.cell (i := 3) rfl
    have rr4 := bR.cell (i := 4) rfl
    have rr5 := bR.cell (i := 5) rfl
    have rr6 := bR.cell (i := 6) rfl
    have rr7 := bR.cell (i := 7) rfl
    have zz0 := bR.thaw 0
    have zz1 := bR.thaw 1
    have zz2 := bR.thaw 2
    have zz3 := bR.thaw 3
    have zz4 := bR.thaw 4
    have zz5 := bR.thaw 5
    have zz6 := bR.thaw 6
    have zz7 := bR.thaw 7
    have qR := bR.lt
    have hF : Hid (∀ W, Only C w W → Drawn W C A cap l → Only C w W) := hidP (fun _ h _ => h)
    clear hF
    go_wp2
    exact bodyPost_ret (v := .agg #[.int .i64 (-1), .int .i64 0, .int .i64 0, .int .i64 0, .int .i64 0, .int .i64 0, .string ⟨#[]⟩, .string ⟨#[]⟩]) (by simp [results, Try.results54, go_sem, rr0, rr1, rr2, rr3, rr4, rr5, rr6, rr7]) rfl ⟨-1, 0, 0, 0, 0, 0, ⟨#[]⟩, ⟨#[]⟩, rfl, .inl ⟨rfl, rfl, rfl, rfl, rfl, rfl, rfl, rfl⟩, only_newC (only_newC (only_newC (only_newC (only_newC (only_newC (only_newC (only_newC (HO.out) ((Only.refl w.heap.size _).set 0 (.int .i64 (-1))) (by omega)) ((Only.refl w.heap.size _).set 1 (.int .i64 0)) (by omega)) ((Only.refl w.heap.size _).set 2 (.int .i64 0)) (by omega)) ((Only.refl w.heap.size _).set 3 (.int .i64 0)) (by omega)) ((Only.refl w.heap.size _).set 4 (.int .i64 0)) (by omega)) ((Only.refl w.heap.size _).set 5 (.int .i64 0)) (by omega)) ((Only.refl w.heap.size _).set 6 (.string ⟨#[]⟩)) (by omega)) ((Only.refl w.heap.size _).set 7 (.string ⟨#[]⟩)) (by omega), ((((((((HD.out).only ((Only.refl w.heap.size _).set 0 (.int .i64 (-1))) (by omega)).only ((Only.refl w.heap.size _).set 1 (.int .i64 0)) (by omega)).only ((Only.refl w.heap.size _).set 2 (.int .i64 0)) (by omega)).only ((Only.refl w.heap.size _).set 3 (.int .i64 0)) (by omega)).only ((Only.refl w.heap.size _).set 4 (.int .i64 0)) (by omega)).only ((Only.refl w.heap.size _).set 5 (.int .i64 0)) (by omega)).only ((Only.refl w.heap.size _).set 6 (.string ⟨#[]⟩)) (by omega)).only ((Only.refl w.heap.size _).set 7 (.string ⟨#[]⟩)) (by omega)⟩
  | false =>
    go_wp2_with fail
    refine (drawBody_any C A cap l _ (HD.out)).mono ?_
    rintro e w2 ⟨op, a, b, c, k, t, rfl, hbd, o_, d_⟩
    replace bR : Blk w2 w.heap.size 35 #[.int .i64 0, .int .i64 0, .int .i64 0, .int .i64 0, .int .i64 0, .int .i64 0, .string ⟨#[]⟩, .string ⟨#[]⟩] := (bR).only o_ (by omega)
    have q_ := o_.size
    try simp only [World.size_alloc, World.size_setCell] at q_
    replace HO := hidP ((HO.out).trans o_)
    replace HD := hidP d_
    clear o_ d_
    have Hbd := hidP hbd
    clear hbd
    have bX := Blk.new w2 35 #[.int .i64 0, .int .i64 0, .int .i64 op, .int .i64 a, .int .i64 b, .int .i64 c, .string k, .string t]
    replace bR := bR.alloc (.cells #[.int .i64 0, .int .i64 0, .int .i64 op, .int .i64 a, .int .i64 b, .int .i64 c, .string k, .string t] 35)
    replace HO := hidP (HO.out.below (alloc0 (Below.refl _ _) (.cells #[.int .i64 0, .int .i64 0, .int .i64 op, .int .i64 a, .int .i64 b, .int .i64 c, .string k, .string t] 35)))
    replace HD := hidP (HD.out.below (alloc0 (Below.refl _ _) (.cells #[.int .i64 0, .int .i64 0, .int .i64 op, .int .i64 a, .int .i64 b, .int .i64 c, .string k, .string t] 35)))
    have hRX : w.heap.size ≠ w2.heap.size := by omega
    go_wp2_with fail
    refine (below_any C A cap l 4 (by omega) (by omega) _ HD.out).mono ?_
    rintro e w3 ⟨who, rfl, hw0, hw1, o_, d_⟩
    have hX : w.heap.size < w2.heap.size := by omega
    generalize w2.heap.size = X at *
    replace bR : Blk w3 w.heap.size 35 #[.int .i64 0, .int .i64 0, .int .i64 0, .int .i64 0, .int .i64 0, .int .i64 0, .string ⟨#[]⟩, .string ⟨#[]⟩] := bR.only o_ (by omega)
    replace bX : Blk w3 X 35 #[.int .i64 0, .int .i64 0, .int .i64 op, .int .i64 a, .int .i64 b, .int .i64 c, .string k, .string t] := bX.only o_ (by omega)
    replace HO := hidP (HO.out.trans o_)
    replace HD := hidP d_
    clear o_ d_
    have cx0 := bX.cell (i := 0) rfl
    have cx1 := bX.cell (i := 1) rfl
    have cx2 := bX.cell (i := 2) rfl
    have cx3 := bX.cell (i := 3) rfl
    have cx4 := bX.cell (i := 4) rfl
    have cx5 := bX.cell (i := 5) rfl
    have cx6 := bX.cell (i := 6) rfl
    have cx7 := bX.cell (i := 7) rfl
    have fx0 := bX.thaw 0
    have fx1 := bX.thaw 1
    have fx2 := bX.thaw 2
    have fx3 := bX.thaw 3
    have fx4 := bX.thaw 4
    have fx5 := bX.thaw 5
    have fx6 := bX.thaw 6
    have fx7 := bX.thaw 7
    have qX := bX.lt
    go_wp2_with fail
    refine (below_any C A cap l 6 (by omega) (by omega) _ ((HD.out).only ((Only.refl X _).set 0 (.int .i64 who)) (by omega))).mono ?_
    rintro e w4 ⟨sq, rfl, hs0, hs1, o_, d_⟩
    replace bR : Blk w4 w.heap.size 35 #[.int .i64 0, .int .i64 0, .int .i64 0, .int .i64 0, .int .i64 0, .int .i64 0, .string ⟨#[]⟩, .string ⟨#[]⟩] := ((bR).other (B' := X) (by omega) 0 (.int .i64 who)).only o_ (by omega)
    replace bX : Blk w4 X 35 #[.int .i64 who, .int .i64 0, .int .i64 op, .int .i64 a, .int .i64 b, .int .i64 c, .string k, .string t] := ((bX).setAt 0 (.int .i64 who)).only o_ (by omega)
    have q_ := o_.size
    try simp only [World.size_alloc, World.size_setCell] at q_
    replace HO := hidP ((only_newC (HO.out) ((Only.refl X _).set 0 (.int .i64 who)) (by omega)).trans o_)
    replace HD := hidP d_
    clear o_ d_
    clear cx0 cx1 cx2 cx3 cx4 cx5 cx6 cx7 fx0 fx1 fx2 fx3 fx4 fx5 fx6 fx7 qX
    have cx0 := bX.cell (i := 0) rfl
    have cx1 := bX.cell (i := 1) rfl
    have cx2 := bX.cell (i := 2) rfl
    have cx3 := bX.cell (i := 3) rfl
    have cx4 := bX.cell (i := 4) rfl
    have cx5 := bX.cell (i := 5) rfl
    have cx6 := bX.cell (i := 6) rfl
    have cx7 := bX.cell (i := 7) rfl
    have fx0 := bX.thaw 0
    have fx1 := bX.thaw 1
    have fx2 := bX.thaw 2
    have fx3 := bX.thaw 3
    have fx4 := bX.thaw 4
    have fx5 := bX.thaw 5
    have fx6 := bX.thaw 6
    have fx7 := bX.thaw 7
    have qX := bX.lt
    obtain ⟨seq, hseq⟩ : ∃ s : Int, s = 1 + sq := ⟨_, rfl⟩
    have hseq1 : 1 ≤ seq ∧ seq ≤ 6 := by omega
    have rr0 := bR.cell (i := 0) rfl
    have rr1 := bR.cell (i := 1) rfl
    have rr2 := bR.cell (i := 2) rfl
    have rr3 := bR.cell (i := 3) rfl
    have rr4 := bR.cell (i := 4) rfl
    have rr5 := bR.cell (i := 5) rfl
    have rr6 := bR.cell (i := 6) rfl
    have rr7 := bR.cell (i := 7) rfl
    have zz0 := bR.thaw 0
    have zz1 := bR.thaw 1
    have zz2 := bR.thaw 2
    have zz3 := bR.thaw 3
    have zz4 := bR.thaw 4
    have zz5 := bR.thaw 5
    have zz6 := bR.thaw 6
    have zz7 := bR.thaw 7
    have qR := bR.lt
    have hF : Hid (∀ W, Only C w W → Drawn W C A cap l → Only C w W) := hidP (fun _ h _ => h)
    clear hF
    go_wp2
    exact bodyPost_ret (v := .agg #[.int .i64 who, .int .i64 (1 + sq), .int .i64 op, .int .i64 a, .int .i64 b, .int .i64 c, .string k, .string t]) (by simp [results, Try.results54, go_sem, rr0, rr1, rr2, rr3, rr4, rr5, rr6, rr7, hRX]) rfl ⟨who, 1 + sq, op, a, b, c, k, t, rfl, .inr ⟨by omega, by omega, by omega, by omega, Hbd.out⟩, only_newC (only_newC (only_newC (only_newC (only_newC (only_newC (only_newC (only_newC (only_newC (HO.out) ((Only.refl X _).set 1 (.int .i64 (1 + sq))) (by omega)) ((Only.refl w.heap.size _).set 0 (.int .i64 who)) (by omega)) ((Only.refl w.heap.size _).set 1 (.int .i64 (1 + sq))) (by omega)) ((Only.refl w.heap.size _).set 2 (.int .i64 op)) (by omega)) ((Only.refl w.heap.size _).set 3 (.int .i64 a)) (by omega)) ((Only.refl w.heap.size _).set 4 (.int .i64 b)) (by omega)) ((Only.refl w.heap.size _).set 5 (.int .i64 c)) (by omega)) ((Only.refl w.heap.size _).set 6 (.string k)) (by omega)) ((Only.refl w.heap.size _).set 7 (.string t)) (by omega), (((((((((HD.out).only ((Only.refl X _).set 1 (.int .i64 (1 + sq))) (by omega)).only ((Only.refl w.heap.size _).set 0 (.int .i64 who)) (by omega)).only ((Only.refl w.heap.size _).set 1 (.int .i64 (1 + sq))) (by omega)).only ((Only.refl w.heap.size _).set 2 (.int .i64 op)) (by omega)).only ((Only.refl w.heap.size _).set 3 (.int .i64 a)) (by omega)).only ((Only.refl w.heap.size _).set 4 (.int .i64 b)) (by omega)).only ((Only.refl w.heap.size _).set 5 (.int .i64 c)) (by omega)).only ((Only.refl w.heap.size _).set 6 (.string k)) (by omega)).only ((Only.refl w.heap.size _).set 7 (.string t)) (by omega)⟩
end Go.Proofs.Ytjmaifmcoepfdaa.Gen
