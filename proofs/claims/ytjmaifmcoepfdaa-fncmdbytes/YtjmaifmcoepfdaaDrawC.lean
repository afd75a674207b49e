/-
  Commands that are drawn: right ones, and spoilt ones.
-/
import Derived.Test.YtjmaifmcoepfdaaRowDraw1
namespace Go.Proofs.Ytjmaifmcoepfdaa.Gen
open Go.ChangeShapes Go.WideShapes Go.ChangeAt Go.RowKit Go.Joins Go.Deep Base
set_option linter.unusedVariables false
set_option linter.unusedSimpArgs false

theorem only_newC {b B : Nat} {w w1 w2 : World} (h : Only b w w1) (k : Only B w1 w2) (hB : w.heap.size ≤ B) : Only b w w2 :=
  ⟨k.os.trans h.os, k.tape.trans h.tape, k.output.trans h.output, Nat.le_trans h.size k.size, fun i hi hb => (k.block i (Nat.lt_of_lt_of_le hi h.size) (by omega)).trans (h.block i hi hb)⟩
theorem newInC {α : Type} [Cel α] (W : World) (L : List α) (cs : Array Value) (tt : TypeId) (h : cs.toList = flat L) : In (W.alloc (.cells cs tt)) W.heap.size 0 L := by
  intro j v hv
  rw [← h] at hv
  exact (Blk.new W tt cs).cell (i := 0 + j) (by simpa using hv)
/-- What a drawn command's text is. -/
structure Tx (k : ByteArray) : Prop where
  ok : Items.textB k = true
  le : k.size ≤ 30
theorem tx_nil : Tx ⟨#[]⟩ := ⟨by decide +kernel, by decide⟩
/-- What a drawn command has in it, but for who asks. -/
structure Bd (op a b c : Int) (k t : ByteArray) : Prop where
  op : 1 ≤ op ∧ op ≤ 10
  a : 0 ≤ a ∧ a ≤ 60
  b : 0 ≤ b ∧ b ≤ 3
  c : 0 ≤ c ∧ c ≤ 2
  k : Tx k
  t : Tx t

set_option maxRecDepth 100000 in
set_option maxHeartbeats 4000000 in
theorem drawBody_any (C : Nat) (A : Option Addr) (cap : Nat) (l : List By) (w : World) (hD : Drawn w C A cap l) :
    Calls Try.prog 71 #[.pointer (some ⟨C, 0, none⟩)] w fun e w' => ∃ (op a b c : Int) (k t : ByteArray), e = .returned (.agg #[.int .i64 0, .int .i64 0, .int .i64 op, .int .i64 a, .int .i64 b, .int .i64 c, .string k, .string t]) ∧ Bd op a b c k t ∧ Only C w w' ∧ Drawn w' C A cap l := by
  have hC := hD.lt
  have HD0 := hidP hD
  clear hD
  have bR := Blk.new w 35 #[.int .i64 0, .int .i64 0, .int .i64 0, .int .i64 0, .int .i64 0, .int .i64 0, .string ⟨#[]⟩, .string ⟨#[]⟩]
  have HO := hidP (Only.of_below (c := C) (alloc0 (Below.refl _ w) (.cells #[.int .i64 0, .int .i64 0, .int .i64 0, .int .i64 0, .int .i64 0, .int .i64 0, .string ⟨#[]⟩, .string ⟨#[]⟩] 35)))
  have HD := hidP (HD0.out.below (alloc0 (Below.refl _ w) (.cells #[.int .i64 0, .int .i64 0, .int .i64 0, .int .i64 0, .int .i64 0, .int .i64 0, .string ⟨#[]⟩, .string ⟨#[]⟩] 35)))
  have HI := hidP (newInC (w.alloc (.cells #[.int .i64 0, .int .i64 0, .int .i64 0, .int .i64 0, .int .i64 0, .int .i64 0, .string ⟨#[]⟩, .string ⟨#[]⟩] 35)) ([⟨1⟩, ⟨1⟩, ⟨1⟩, ⟨2⟩, ⟨2⟩, ⟨3⟩, ⟨4⟩, ⟨4⟩, ⟨5⟩, ⟨6⟩, ⟨7⟩, ⟨8⟩, ⟨9⟩, ⟨10⟩] : List Nu) #[.int .i64 (1), .int .i64 (1), .int .i64 (1), .int .i64 (2), .int .i64 (2), .int .i64 (3), .int .i64 (4), .int .i64 (4), .int .i64 (5), .int .i64 (6), .int .i64 (7), .int .i64 (8), .int .i64 (9), .int .i64 (10)] 3 rfl)
  rw [World.size_alloc] at HI
  clear HD0
  go_enter Try.func71, Try.ntmps71
  go_wp2_with fail
  refine (pick_any C A cap l (w.heap.size + 1) 0 14 ([⟨1⟩, ⟨1⟩, ⟨1⟩, ⟨2⟩, ⟨2⟩, ⟨3⟩, ⟨4⟩, ⟨4⟩, ⟨5⟩, ⟨6⟩, ⟨7⟩, ⟨8⟩, ⟨9⟩, ⟨10⟩] : List Nu) (by simp) (by simp) _ ((HD.out).below (alloc0 (Below.refl _ _) (.cells #[.int .i64 (1), .int .i64 (1), .int .i64 (1), .int .i64 (2), .int .i64 (2), .int .i64 (3), .int .i64 (4), .int .i64 (4), .int .i64 (5), .int .i64 (6), .int .i64 (7), .int .i64 (8), .int .i64 (9), .int .i64 (10)] 3))) (by simp) (by omega) HI.out).mono ?_
  rintro e w1 ⟨y1, hy1, rfl, o_, d_⟩
  replace bR : Blk w1 w.heap.size 35 #[.int .i64 0, .int .i64 0, .int .i64 0, .int .i64 0, .int .i64 0, .int .i64 0, .string ⟨#[]⟩, .string ⟨#[]⟩] := ((bR).alloc (.cells #[.int .i64 (1), .int .i64 (1), .int .i64 (1), .int .i64 (2), .int .i64 (2), .int .i64 (3), .int .i64 (4), .int .i64 (4), .int .i64 (5), .int .i64 (6), .int .i64 (7), .int .i64 (8), .int .i64 (9), .int .i64 (10)] 3)).only o_ (by omega)
  have q_ := o_.size
  try simp only [World.size_alloc, World.size_setCell] at q_
  replace HO := hidP (((HO.out).below (alloc0 (Below.refl _ _) (.cells #[.int .i64 (1), .int .i64 (1), .int .i64 (1), .int .i64 (2), .int .i64 (2), .int .i64 (3), .int .i64 (4), .int .i64 (4), .int .i64 (5), .int .i64 (6), .int .i64 (7), .int .i64 (8), .int .i64 (9), .int .i64 (10)] 3))).trans o_)
  replace HD := hidP d_
  clear o_ d_
  have h1 : 1 ≤ y1.n ∧ y1.n ≤ 10 := by
    simp only [List.mem_cons, List.not_mem_nil, or_false] at hy1
    rcases hy1 with rfl | rfl | rfl | rfl | rfl | rfl | rfl | rfl | rfl | rfl | rfl | rfl | rfl | rfl <;> exact ⟨by decide, by decide⟩
  generalize y1.n = op at *
  clear hy1 HI
  go_wp2_with fail
  refine (below_any C A cap l 3 (by omega) (by omega) _ (HD.out)).mono ?_
  rintro e w2 ⟨a, rfl, ha0, ha1, o_, d_⟩
  replace bR : Blk w2 w.heap.size 35 #[.int .i64 0, .int .i64 0, .int .i64 0, .int .i64 0, .int .i64 0, .int .i64 0, .string ⟨#[]⟩, .string ⟨#[]⟩] := (bR).only o_ (by omega)
  have q_ := o_.size
  try simp only [World.size_alloc, World.size_setCell] at q_
  replace HO := hidP ((HO.out).trans o_)
  replace HD := hidP d_
  clear o_ d_
  go_wp2_with fail
  refine (below_any C A cap l 4 (by omega) (by omega) _ (HD.out)).mono ?_
  rintro e w3 ⟨b, rfl, hb0, hb1, o_, d_⟩
  replace bR : Blk w3 w.heap.size 35 #[.int .i64 0, .int .i64 0, .int .i64 0, .int .i64 0, .int .i64 0, .int .i64 0, .string ⟨#[]⟩, .string ⟨#[]⟩] := (bR).only o_ (by omega)
  have q_ := o_.size
  try simp only [World.size_alloc, World.size_setCell] at q_
  replace HO := hidP ((HO.out).trans o_)
  replace HD := hidP d_
  clear o_ d_
  go_wp2_with fail
  refine (below_any C A cap l 3 (by omega) (by omega) _ (HD.out)).mono ?_
  rintro e w4 ⟨c, rfl, hc0, hc1, o_, d_⟩
  replace bR : Blk w4 w.heap.size 35 #[.int .i64 0, .int .i64 0, .int .i64 0, .int .i64 0, .int .i64 0, .int .i64 0, .string ⟨#[]⟩, .string ⟨#[]⟩] := (bR).only o_ (by omega)
  have q_ := o_.size
  try simp only [World.size_alloc, World.size_setCell] at q_
  replace HO := hidP ((HO.out).trans o_)
  replace HD := hidP d_
  clear o_ d_
  have bX := Blk.new w4 35 #[.int .i64 0, .int .i64 0, .int .i64 op, .int .i64 a, .int .i64 b, .int .i64 c, .string ⟨#[]⟩, .string ⟨#[]⟩]
  replace bR := bR.alloc (.cells #[.int .i64 0, .int .i64 0, .int .i64 op, .int .i64 a, .int .i64 b, .int .i64 c, .string ⟨#[]⟩, .string ⟨#[]⟩] 35)
  replace HO := hidP (HO.out.below (alloc0 (Below.refl _ _) (.cells #[.int .i64 0, .int .i64 0, .int .i64 op, .int .i64 a, .int .i64 b, .int .i64 c, .string ⟨#[]⟩, .string ⟨#[]⟩] 35)))
  replace HD := hidP (HD.out.below (alloc0 (Below.refl _ _) (.cells #[.int .i64 0, .int .i64 0, .int .i64 op, .int .i64 a, .int .i64 b, .int .i64 c, .string ⟨#[]⟩, .string ⟨#[]⟩] 35)))
  have hRX : w.heap.size ≠ w4.heap.size := by omega
  by_cases e1 : op = 1
  · subst e1
    go_wp2_with fail
    refine (text_any C A cap l _ HD.out).mono ?_
    rintro e w5 ⟨k, rfl, hk1, hk2, o_, d_⟩
    have hX : w.heap.size < w4.heap.size := by omega
    generalize w4.heap.size = X at *
    replace bR : Blk w5 w.heap.size 35 #[.int .i64 0, .int .i64 0, .int .i64 0, .int .i64 0, .int .i64 0, .int .i64 0, .string ⟨#[]⟩, .string ⟨#[]⟩] := bR.only o_ (by omega)
    replace bX : Blk w5 X 35 #[.int .i64 0, .int .i64 0, .int .i64 1, .int .i64 a, .int .i64 b, .int .i64 c, .string ⟨#[]⟩, .string ⟨#[]⟩] := bX.only o_ (by omega)
    replace HO := hidP (HO.out.trans o_)
    replace HD := hidP d_
    clear o_ d_
    have cx0 := bX.cell (i := 0) rfl
    have cx1 := bX.cell (i := 1) rfl
    have cx2 := bX.cell (i := 2) rfl
    have cx3 := bX.cell (i := 3) rfl
    have cx4 := bX.cell (i := 4) rfl
    have cx5 := bX.cell (i := 5) rfl
    have cx6 := bX.cell (i := 6) rfl
    have cx7 := bX.cell (i := 7) rfl
    have fx0 := bX.thaw 0
    have fx1 := bX.thaw 1
    have fx2 := bX.thaw 2
    have fx3 := bX.thaw 3
    have fx4 := bX.thaw 4
    have fx5 := bX.thaw 5
    have fx6 := bX.thaw 6
    have fx7 := bX.thaw 7
    have qX := bX.lt
    go_wp2_with fail
    refine (text_any C A cap l _ ((HD.out).only ((Only.refl X _).set 6 (.string k)) (by omega))).mono ?_
    rintro e w6 ⟨t, rfl, ht1, ht2, o_, d_⟩
    replace bR : Blk w6 w.heap.size 35 #[.int .i64 0, .int .i64 0, .int .i64 0, .int .i64 0, .int .i64 0, .int .i64 0, .string ⟨#[]⟩, .string ⟨#[]⟩] := ((bR).other (B' := X) (by omega) 6 (.string k)).only o_ (by omega)
    replace bX : Blk w6 X 35 #[.int .i64 0, .int .i64 0, .int .i64 1, .int .i64 a, .int .i64 b, .int .i64 c, .string k, .string ⟨#[]⟩] := ((bX).setAt 6 (.string k)).only o_ (by omega)
    have q_ := o_.size
    try simp only [World.size_alloc, World.size_setCell] at q_
    replace HO := hidP ((only_newC (HO.out) ((Only.refl X _).set 6 (.string k)) (by omega)).trans o_)
    replace HD := hidP d_
    clear o_ d_
    clear cx0 cx1 cx2 cx3 cx4 cx5 cx6 cx7 fx0 fx1 fx2 fx3 fx4 fx5 fx6 fx7 qX
    have cx0 := bX.cell (i := 0) rfl
    have cx1 := bX.cell (i := 1) rfl
    have cx2 := bX.cell (i := 2) rfl
    have cx3 := bX.cell (i := 3) rfl
    have cx4 := bX.cell (i := 4) rfl
    have cx5 := bX.cell (i := 5) rfl
    have cx6 := bX.cell (i := 6) rfl
    have cx7 := bX.cell (i := 7) rfl
    have fx0 := bX.thaw 0
    have fx1 := bX.thaw 1
    have fx2 := bX.thaw 2
    have fx3 := bX.thaw 3
    have fx4 := bX.thaw 4
    have fx5 := bX.thaw 5
    have fx6 := bX.thaw 6
    have fx7 := bX.thaw 7
    have qX := bX.lt
    have HI := hidP (newInC (w6.setCell ⟨X, 7, none⟩ (.string t)) ([⟨0⟩, ⟨0⟩, ⟨0⟩, ⟨1⟩] : List Nu) #[.int .i64 (0), .int .i64 (0), .int .i64 (0), .int .i64 (1)] 3 rfl)
    rw [World.size_setCell] at HI
    go_wp2_with fail
    refine (pick_any C A cap l w6.heap.size 0 4 ([⟨0⟩, ⟨0⟩, ⟨0⟩, ⟨1⟩] : List Nu) (by simp) (by simp) _ (((HD.out).only ((Only.refl X _).set 7 (.string t)) (by omega)).below (alloc0 (Below.refl _ _) (.cells #[.int .i64 (0), .int .i64 (0), .int .i64 (0), .int .i64 (1)] 3))) (by simp) (by omega) HI.out).mono ?_
    rintro e w7 ⟨y2, hy2, rfl, o_, d_⟩
    replace bR : Blk w7 w.heap.size 35 #[.int .i64 0, .int .i64 0, .int .i64 0, .int .i64 0, .int .i64 0, .int .i64 0, .string ⟨#[]⟩, .string ⟨#[]⟩] := (((bR).other (B' := X) (by omega) 7 (.string t)).alloc (.cells #[.int .i64 (0), .int .i64 (0), .int .i64 (0), .int .i64 (1)] 3)).only o_ (by omega)
    replace bX : Blk w7 X 35 #[.int .i64 0, .int .i64 0, .int .i64 1, .int .i64 a, .int .i64 b, .int .i64 c, .string k, .string t] := (((bX).setAt 7 (.string t)).alloc (.cells #[.int .i64 (0), .int .i64 (0), .int .i64 (0), .int .i64 (1)] 3)).only o_ (by omega)
    have q_ := o_.size
    try simp only [World.size_alloc, World.size_setCell] at q_
    replace HO := hidP (((only_newC (HO.out) ((Only.refl X _).set 7 (.string t)) (by omega)).below (alloc0 (Below.refl _ _) (.cells #[.int .i64 (0), .int .i64 (0), .int .i64 (0), .int .i64 (1)] 3))).trans o_)
    replace HD := hidP d_
    clear o_ d_
    have hc : 0 ≤ y2.n ∧ y2.n ≤ 2 := by
      simp only [List.mem_cons, List.not_mem_nil, or_false] at hy2
      rcases hy2 with rfl | rfl | rfl | rfl <;> exact ⟨by decide, by decide⟩
    generalize y2.n = c2 at *
    clear hy2 HI
    clear cx0 cx1 cx2 cx3 cx4 cx5 cx6 cx7 fx0 fx1 fx2 fx3 fx4 fx5 fx6 fx7 qX
    have cx0 := bX.cell (i := 0) rfl
    have cx1 := bX.cell (i := 1) rfl
    have cx2 := bX.cell (i := 2) rfl
    have cx3 := bX.cell (i := 3) rfl
    have cx4 := bX.cell (i := 4) rfl
    have cx5 := bX.cell (i := 5) rfl
    have cx6 := bX.cell (i := 6) rfl
    have cx7 := bX.cell (i := 7) rfl
    have fx0 := bX.thaw 0
    have fx1 := bX.thaw 1
    have fx2 := bX.thaw 2
    have fx3 := bX.thaw 3
    have fx4 := bX.thaw 4
    have fx5 := bX.thaw 5
    have fx6 := bX.thaw 6
    have fx7 := bX.thaw 7
    have qX := bX.lt
    have rr0 := bR.cell (i := 0) rfl
    have rr1 := bR.cell (i := 1) rfl
    have rr2 := bR.cell (i := 2) rfl
    have rr3 := bR.cell (i := 3) rfl
    have rr4 := bR.cell (i := 4) rfl
    have rr5 := bR.cell (i := 5) rfl
    have rr6 := bR.cell (i := 6) rfl
    have rr7 := bR.cell (i := 7) rfl
    have zz0 := bR.thaw 0
    have zz1 := bR.thaw 1
    have zz2 := bR.thaw 2
    have zz3 := bR.thaw 3
    have zz4 := bR.thaw 4
    have zz5 := bR.thaw 5
    have zz6 := bR.thaw 6
    have zz7 := bR.thaw 7
    have qR := bR.lt
    have hF : Hid (∀ W, Only C w W → Drawn W C A cap l → Only C w W) := hidP (fun _ h _ => h)
    clear hF
    go_wp2
    exact bodyPost_ret (v := .agg #[.int .i64 0, .int .i64 0, .int .i64 1, .int .i64 a, .int .i64 b, .int .i64 c2, .string k, .string t]) (by simp [results, Try.results71, go_sem, rr0, rr1, rr2, rr3, rr4, rr5, rr6, rr7, hRX]) rfl ⟨1, a, b, c2, k, t, rfl, ⟨by omega, by omega, by omega, hc, ⟨hk1, hk2⟩, ⟨ht1, ht2⟩⟩, only_newC (only_newC (only_newC (only_newC (only_newC (only_newC (only_newC (only_newC (only_newC (HO.out) ((Only.refl X _).set 5 (.int .i64 c2)) (by omega)) ((Only.refl w.heap.size _).set 0 (.int .i64 0)) (by omega)) ((Only.refl w.heap.size _).set 1 (.int .i64 0)) (by omega)) ((Only.refl w.heap.size _).set 2 (.int .i64 1)) (by omega)) ((Only.refl w.heap.size _).set 3 (.int .i64 a)) (by omega)) ((Only.refl w.heap.size _).set 4 (.int .i64 b)) (by omega)) ((Only.refl w.heap.size _).set 5 (.int .i64 c2)) (by omega)) ((Only.refl w.heap.size _).set 6 (.string k)) (by omega)) ((Only.refl w.heap.size _).set 7 (.string t)) (by omega), (((((((((HD.out).only ((Only.refl X _).set 5 (.int .i64 c2)) (by omega)).only ((Only.refl w.heap.size _).set 0 (.int .i64 0)) (by omega)).only ((Only.refl w.heap.size _).set 1 (.int .i64 0)) (by omega)).only ((Only.refl w.heap.size _).set 2 (.int .i64 1)) (by omega)).only ((Only.refl w.heap.size _).set 3 (.int .i64 a)) (by omega)).only ((Only.refl w.heap.size _).set 4 (.int .i64 b)) (by omega)).only ((Only.refl w.heap.size _).set 5 (.int .i64 c2)) (by omega)).only ((Only.refl w.heap.size _).set 6 (.string k)) (by omega)).only ((Only.refl w.heap.size _).set 7 (.string t)) (by omega)⟩
  by_cases e8 : op = 8
  · subst e8
    have HI := hidP (newInC (w4.alloc (.cells #[.int .i64 0, .int .i64 0, .int .i64 8, .int .i64 a, .int .i64 b, .int .i64 c, .string ⟨#[]⟩, .string ⟨#[]⟩] 35)) ([⟨0⟩, ⟨10⟩, ⟨60⟩] : List Nu) #[.int .i64 (0), .int .i64 (10), .int .i64 (60)] 3 rfl)
    rw [World.size_alloc] at HI
    go_wp2_with fail
    refine (pick_any C A cap l (w4.heap.size + 1) 0 3 ([⟨0⟩, ⟨10⟩, ⟨60⟩] : List Nu) (by simp) (by simp) _ (HD.out.below (alloc0 (Below.refl _ _) (.cells #[.int .i64 (0), .int .i64 (10), .int .i64 (60)] 3))) (by simp) (by omega) HI.out).mono ?_
    rintro e w5 ⟨y2, hy2, rfl, o_, d_⟩
    have ha : 0 ≤ y2.n ∧ y2.n ≤ 60 := by
      simp only [List.mem_cons, List.not_mem_nil, or_false] at hy2
      rcases hy2 with rfl | rfl | rfl <;> exact ⟨by decide, by decide⟩
    generalize y2.n = a2 at *
    clear hy2 HI
    have hX : w.heap.size < w4.heap.size := by omega
    generalize w4.heap.size = X at *
    replace bR : Blk w5 w.heap.size 35 #[.int .i64 0, .int .i64 0, .int .i64 0, .int .i64 0, .int .i64 0, .int .i64 0, .string ⟨#[]⟩, .string ⟨#[]⟩] := (bR.alloc (.cells #[.int .i64 (0), .int .i64 (10), .int .i64 (60)] 3)).only o_ (by omega)
    replace bX : Blk w5 X 35 #[.int .i64 0, .int .i64 0, .int .i64 8, .int .i64 a, .int .i64 b, .int .i64 c, .string ⟨#[]⟩, .string ⟨#[]⟩] := (bX.alloc (.cells #[.int .i64 (0), .int .i64 (10), .int .i64 (60)] 3)).only o_ (by omega)
    replace HO := hidP ((HO.out.below (alloc0 (Below.refl _ _) (.cells #[.int .i64 (0), .int .i64 (10), .int .i64 (60)] 3))).trans o_)
    replace HD := hidP d_
    clear o_ d_
    have cx0 := bX.cell (i := 0) rfl
    have cx1 := bX.cell (i := 1) rfl
    have cx2 := bX.cell (i := 2) rfl
    have cx3 := bX.cell (i := 3) rfl
    have cx4 := bX.cell (i := 4) rfl
    have cx5 := bX.cell (i := 5) rfl
    have cx6 := bX.cell (i := 6) rfl
    have cx7 := bX.cell (i := 7) rfl
    have fx0 := bX.thaw 0
    have fx1 := bX.thaw 1
    have fx2 := bX.thaw 2
    have fx3 := bX.thaw 3
    have fx4 := bX.thaw 4
    have fx5 := bX.thaw 5
    have fx6 := bX.thaw 6
    have fx7 := bX.thaw 7
    have qX := bX.lt
    have rr0 := bR.cell (i := 0) rfl
    have rr1 := bR.cell (i := 1) rfl
    have rr2 := bR.cell (i := 2) rfl
    have rr3 := bR.cell (i := 3) rfl
    have rr4 := bR.cell (i := 4) rfl
    have rr5 := bR.cell (i := 5) rfl
    have rr6 := bR.cell (i := 6) rfl
    have rr7 := bR.cell (i := 7) rfl
    have zz0 := bR.thaw 0
    have zz1 := bR.thaw 1
    have zz2 := bR.thaw 2
    have zz3 := bR.thaw 3
    have zz4 := bR.thaw 4
    have zz5 := bR.thaw 5
    have zz6 := bR.thaw 6
    have zz7 := bR.thaw 7
    have qR := bR.lt
    have hF : Hid (∀ W, Only C w W → Drawn W C A cap l → Only C w W) := hidP (fun _ h _ => h)
    clear hF
    go_wp2
    exact bodyPost_ret (v := .agg #[.int .i64 0, .int .i64 0, .int .i64 8, .int .i64 a2, .int .i64 b, .int .i64 c, .string ⟨#[]⟩, .string ⟨#[]⟩]) (by simp [results, Try.results71, go_sem, rr0, rr1, rr2, rr3, rr4, rr5, rr6, rr7, hRX]) rfl ⟨8, a2, b, c, ⟨#[]⟩, ⟨#[]⟩, rfl, ⟨by omega, ha, by omega, by omega, tx_nil, tx_nil⟩, only_newC (only_newC (only_newC (only_newC (only_newC (only_newC (only_newC (only_newC (only_newC (HO.out) ((Only.refl X _).set 3 (.int .i64 a2)) (by omega)) ((Only.refl w.heap.size _).set 0 (.int .i64 0)) (by omega)) ((Only.refl w.heap.size _).set 1 (.int .i64 0)) (by omega)) ((Only.refl w.heap.size _).set 2 (.int .i64 8)) (by omega)) ((Only.refl w.heap.size _).set 3 (.int .i64 a2)) (by omega)) ((Only.refl w.heap.size _).set 4 (.int .i64 b)) (by omega)) ((Only.refl w.heap.size _).set 5 (.int .i64 c)) (by omega)) ((Only.refl w.heap.size _).set 6 (.string ⟨#[]⟩)) (by omega)) ((Only.refl w.heap.size _).set 7 (.string ⟨#[]⟩)) (by omega), (((((((((HD.out).only ((Only.refl X _).set 3 (.int .i64 a2)) (by omega)).only ((Only.refl w.heap.size _).set 0 (.int .i64 0)) (by omega)).only ((Only.refl w.heap.size _).set 1 (.int .i64 0)) (by omega)).only ((Only.refl w.heap.size _).set 2 (.int .i64 8)) (by omega)).only ((Only.refl w.heap.size _).set 3 (.int .i64 a2)) (by omega)).only ((Only.refl w.heap.size _).set 4 (.int .i64 b)) (by omega)).only ((Only.refl w.heap.size _).set 5 (.int .i64 c)) (by omega)).only ((Only.refl w.heap.size _).set 6 (.string ⟨#[]⟩)) (by omega)).only ((Only.refl w.heap.size _).set 7 (.string ⟨#[]⟩)) (by omega)⟩
  have cx0 := bX.cell (i := 0) rfl
  have cx1 := bX.cell (i := 1) rfl
  have cx2 := bX.cell (i := 2) rfl
  have cx3 := bX.cell (i := 3) rfl
  have cx4 := bX.cell (i := 4) rfl
  have cx5 := bX.cell (i := 5) rfl
  have cx6 := bX.cell (i := 6) rfl
  have cx7 := bX.cell (i := 7) rfl
  have fx0 := bX.thaw 0
  have fx1 := bX.thaw 1
  have fx2 := bX.thaw 2
  have fx3 := bX.thaw 3
  have fx4 := bX.thaw 4
  have fx5 := bX.thaw 5
  have fx6 := bX.thaw 6
  have fx7 := bX.thaw 7
  have qX := bX.lt
  have rr0 := bR.cell (i := 0) rfl
  have rr1 := bR.cell (i := 1) rfl
  have rr2 := bR.cell (i := 2) rfl
  have rr3 := bR.cell (i := 3) rfl
  have rr4 := bR.cell (i := 4) rfl
  have rr5 := bR.cell (i := 5) rfl
  have rr6 := bR.cell (i := 6) rfl
  have rr7 := bR.cell (i := 7) rfl
  have zz0 := bR.thaw 0
  have zz1 := bR.thaw 1
  have zz2 := bR.thaw 2
  have zz3 := bR.thaw 3
  have zz4 := bR.thaw 4
  have zz5 := bR.thaw 5
  have zz6 := bR.thaw 6
  have zz7 := bR.thaw 7
  have qR := bR.lt
  have hF : Hid (∀ W, Only C w W → Drawn W C A cap l → Only C w W) := hidP (fun _ h _ => h)
  clear hF
  go_wp2
  exact bodyPost_ret (v := .agg #[.int .i64 0, .int .i64 0, .int .i64 op, .int .i64 a, .int .i64 b, .int .i64 c, .string ⟨#[]⟩, .string ⟨#[]⟩]) (by simp [results, Try.results71, go_sem, rr0, rr1, rr2, rr3, rr4, rr5, rr6, rr7, hRX]) rfl ⟨op, a, b, c, ⟨#[]⟩, ⟨#[]⟩, rfl, ⟨h1, by omega, by omega, by omega, tx_nil, tx_nil⟩, only_newC (only_newC (only_newC (only_newC (only_newC (only_newC (only_newC (only_newC (HO.out) ((Only.refl w.heap.size _).set 0 (.int .i64 0)) (by omega)) ((Only.refl w.heap.size _).set 1 (.int .i64 0)) (by omega)) ((Only.refl w.heap.size _).set 2 (.int .i64 op)) (by omega)) ((Only.refl w.heap.size _).set 3 (.int .i64 a)) (by omega)) ((Only.refl w.heap.size _).set 4 (.int .i64 b)) (by omega)) ((Only.refl w.heap.size _).set 5 (.int .i64 c)) (by omega)) ((Only.refl w.heap.size _).set 6 (.string ⟨#[]⟩)) (by omega)) ((Only.refl w.heap.size _).set 7 (.string ⟨#[]⟩)) (by omega), ((((((((HD.out).only ((Only.refl w.heap.size _).set 0 (.int .i64 0)) (by omega)).only ((Only.refl w.heap.size _).set 1 (.int .i64 0)) (by omega)).only ((Only.refl w.heap.size _).set 2 (.int .i64 op)) (by omega)).only ((Only.refl w.heap.size _).set 3 (.int .i64 a)) (by omega)).only ((Only.refl w.heap.size _).set 4 (.int .i64 b)) (by omega)).only ((Only.refl w.heap.size _).set 5 (.int .i64 c)) (by omega)).only ((Only.refl w.heap.size _).set 6 (.string ⟨#[]⟩)) (by omega)).only ((Only.refl w.heap.size _).set 7 (.string ⟨#[]⟩)) (by omega)⟩
end Go.Proofs.Ytjmaifmcoepfdaa.Gen
