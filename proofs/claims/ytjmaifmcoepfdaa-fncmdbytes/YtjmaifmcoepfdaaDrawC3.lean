/-
  Commands that are drawn, spoilt ones.
-/
import Derived.Test.YtjmaifmcoepfdaaDrawC
namespace Go.Proofs.Ytjmaifmcoepfdaa.Gen
open Go.ChangeShapes Go.WideShapes Go.ChangeAt Go.RowKit Go.Joins Go.Deep Base
set_option linter.unusedVariables false
set_option linter.unusedSimpArgs false

set_option maxRecDepth 100000 in
set_option maxHeartbeats 4000000 in
theorem spoil_any (C : Nat) (A : Option Addr) (cap : Nat) (l : List By) (who seq op a b c : Int) (k t : ByteArray) (hk : k.size ≤ 40) (ht : t.size ≤ 40) (w : World) (hD : Drawn w C A cap l) :
    Calls Try.prog 69 #[.pointer (some ⟨C, 0, none⟩), .agg #[.int .i64 who, .int .i64 seq, .int .i64 op, .int .i64 a, .int .i64 b, .int .i64 c, .string k, .string t]] w fun e w' => ∃ (who seq op a b c : Int) (k t : ByteArray), e = .returned (.agg #[.int .i64 who, .int .i64 seq, .int .i64 op, .int .i64 a, .int .i64 b, .int .i64 c, .string k, .string t]) ∧ k.size ≤ 40 ∧ t.size ≤ 40 ∧ Only C w w' ∧ Drawn w' C A cap l := by
  have hC := hD.lt
  have HD0 := hidP hD
  clear hD
  have bX := (Blk.new w 35 #[.int .i64 who, .int .i64 seq, .int .i64 op, .int .i64 a, .int .i64 b, .int .i64 c, .string k, .string t]).alloc (.cells #[.int .i64 0, .int .i64 0, .int .i64 0, .int .i64 0, .int .i64 0, .int .i64 0, .string ⟨#[]⟩, .string ⟨#[]⟩] 35)
  have bR := Blk.new (w.alloc (.cells #[.int .i64 who, .int .i64 seq, .int .i64 op, .int .i64 a, .int .i64 b, .int .i64 c, .string k, .string t] 35)) 35 #[.int .i64 0, .int .i64 0, .int .i64 0, .int .i64 0, .int .i64 0, .int .i64 0, .string ⟨#[]⟩, .string ⟨#[]⟩]
  rw [World.size_alloc] at bR
  have HO := hidP ((Only.of_below (c := C) (alloc0 (Below.refl _ w) (.cells #[.int .i64 who, .int .i64 seq, .int .i64 op, .int .i64 a, .int .i64 b, .int .i64 c, .string k, .string t] 35))).below (alloc0 (Below.refl _ _) (.cells #[.int .i64 0, .int .i64 0, .int .i64 0, .int .i64 0, .int .i64 0, .int .i64 0, .string ⟨#[]⟩, .string ⟨#[]⟩] 35)))
  have HD := hidP ((HD0.out.below (alloc0 (Below.refl _ w) (.cells #[.int .i64 who, .int .i64 seq, .int .i64 op, .int .i64 a, .int .i64 b, .int .i64 c, .string k, .string t] 35))).below (alloc0 (Below.refl _ _) (.cells #[.int .i64 0, .int .i64 0, .int .i64 0, .int .i64 0, .int .i64 0, .int .i64 0, .string ⟨#[]⟩, .string ⟨#[]⟩] 35)))
  clear HD0
  have hRX : w.heap.size ≠ w.heap.size + 1 := by omega
  go_enter Try.func69, Try.ntmps69
  go_wp2_with fail
  refine (below_any C A cap l 14 (by omega) (by omega) _ (HD.out)).mono ?_
  rintro e w1 ⟨q, rfl, hq0, hq1, o_, d_⟩
  replace bR : Blk w1 (w.heap.size + 1) 35 #[.int .i64 0, .int .i64 0, .int .i64 0, .int .i64 0, .int .i64 0, .int .i64 0, .string ⟨#[]⟩, .string ⟨#[]⟩] := (bR).only o_ (by omega)
  replace bX : Blk w1 w.heap.size 35 #[.int .i64 who, .int .i64 seq, .int .i64 op, .int .i64 a, .int .i64 b, .int .i64 c, .string k, .string t] := (bX).only o_ (by omega)
  have q_ := o_.size
  try simp only [World.size_alloc, World.size_setCell] at q_
  replace HO := hidP ((HO.out).trans o_)
  replace HD := hidP d_
  clear o_ d_
  have cx0 := bX.cell (i := 0) rfl
  have cx1 := bX.cell (i := 1) rfl
  have cx2 := bX.cell (i := 2) rfl
  have cx3 := bX.cell (i := 3) rfl
  have cx4 := bX.cell (i := 4) rfl
  have cx5 := bX.cell (i := 5) rfl
  have cx6 := bX.cell (i := 6) rfl
  have cx7 := bX.cell (i := 7) rfl
  have fx0 := bX.thaw 0
  have fx1 := bX.thaw 1
  have fx2 := bX.thaw 2
  have fx3 := bX.thaw 3
  have fx4 := bX.thaw 4
  have fx5 := bX.thaw 5
  have fx6 := bX.thaw 6
  have fx7 := bX.thaw 7
  have qX := bX.lt
  by_cases e0 : q = 0
  · subst e0
    have HI := hidP (newInC w1 ([⟨-2⟩, ⟨-1⟩, ⟨3⟩, ⟨4⟩] : List Nu) #[.int .i64 (-2), .int .i64 (-1), .int .i64 (3), .int .i64 (4)] 3 rfl)
    go_wp2_with fail
    refine (pick_any C A cap l w1.heap.size 0 4 ([⟨-2⟩, ⟨-1⟩, ⟨3⟩, ⟨4⟩] : List Nu) (by simp) (by simp) _ ((HD.out).below (alloc0 (Below.refl _ _) (.cells #[.int .i64 (-2), .int .i64 (-1), .int .i64 (3), .int .i64 (4)] 3))) (by simp) (by omega) HI.out).mono ?_
    rintro e w2 ⟨y, hy, rfl, o_, d_⟩
    replace bR : Blk w2 (w.heap.size + 1) 35 #[.int .i64 0, .int .i64 0, .int .i64 0, .int .i64 0, .int .i64 0, .int .i64 0, .string ⟨#[]⟩, .string ⟨#[]⟩] := ((bR).alloc (.cells #[.int .i64 (-2), .int .i64 (-1), .int .i64 (3), .int .i64 (4)] 3)).only o_ (by omega)
    replace bX : Blk w2 w.heap.size 35 #[.int .i64 who, .int .i64 seq, .int .i64 op, .int .i64 a, .int .i64 b, .int .i64 c, .string k, .string t] := ((bX).alloc (.cells #[.int .i64 (-2), .int .i64 (-1), .int .i64 (3), .int .i64 (4)] 3)).only o_ (by omega)
    have q_ := o_.size
    try simp only [World.size_alloc, World.size_setCell] at q_
    replace HO := hidP (((HO.out).below (alloc0 (Below.refl _ _) (.cells #[.int .i64 (-2), .int .i64 (-1), .int .i64 (3), .int .i64 (4)] 3))).trans o_)
    replace HD := hidP d_
    clear o_ d_
    generalize y.n = n at *
    clear hy HI
    clear cx0 cx1 cx2 cx3 cx4 cx5 cx6 cx7 fx0 fx1 fx2 fx3 fx4 fx5 fx6 fx7 qX
    have cx0 := bX.cell (i := 0) rfl
    have cx1 := bX.cell (i := 1) rfl
    have cx2 := bX.cell (i := 2) rfl
    have cx3 := bX.cell (i := 3) rfl
    have cx4 := bX.cell (i := 4) rfl
    have cx5 := bX.cell (i := 5) rfl
    have cx6 := bX.cell (i := 6) rfl
    have cx7 := bX.cell (i := 7) rfl
    have fx0 := bX.thaw 0
    have fx1 := bX.thaw 1
    have fx2 := bX.thaw 2
    have fx3 := bX.thaw 3
    have fx4 := bX.thaw 4
    have fx5 := bX.thaw 5
    have fx6 := bX.thaw 6
    have fx7 := bX.thaw 7
    have qX := bX.lt
    have rr0 := bR.cell (i := 0) rfl
    have rr1 := bR.cell (i := 1) rfl
    have rr2 := bR.cell (i := 2) rfl
    have rr3 := bR.cell (i := 3) rfl
    have rr4 := bR.cell (i := 4) rfl
    have rr5 := bR.cell (i := 5) rfl
    have rr6 := bR.cell (i := 6) rfl
    have rr7 := bR.cell (i := 7) rfl
    have zz0 := bR.thaw 0
    have zz1 := bR.thaw 1
    have zz2 := bR.thaw 2
    have zz3 := bR.thaw 3
    have zz4 := bR.thaw 4
    have zz5 := bR.thaw 5
    have zz6 := bR.thaw 6
    have zz7 := bR.thaw 7
    have qR := bR.lt
    have hF : Hid (∀ W, Only C w W → Drawn W C A cap l → Only C w W) := hidP (fun _ h _ => h)
    clear hF
    go_wp2
    exact bodyPost_ret (v := .agg #[.int .i64 n, .int .i64 seq, .int .i64 op, .int .i64 a, .int .i64 b, .int .i64 c, .string k, .string t]) (by simp [results, Try.results69, go_sem, rr0, rr1, rr2, rr3, rr4, rr5, rr6, rr7, hRX]) rfl ⟨n, seq, op, a, b, c, k, t, rfl, hk, ht, only_newC (only_newC (only_newC (only_newC (only_newC (only_newC (only_newC (only_newC (only_newC (HO.out) ((Only.refl w.heap.size _).set 0 (.int .i64 n)) (by omega)) ((Only.refl (w.heap.size + 1) _).set 0 (.int .i64 n)) (by omega)) ((Only.refl (w.heap.size + 1) _).set 1 (.int .i64 seq)) (by omega)) ((Only.refl (w.heap.size + 1) _).set 2 (.int .i64 op)) (by omega)) ((Only.refl (w.heap.size + 1) _).set 3 (.int .i64 a)) (by omega)) ((Only.refl (w.heap.size + 1) _).set 4 (.int .i64 b)) (by omega)) ((Only.refl (w.heap.size + 1) _).set 5 (.int .i64 c)) (by omega)) ((Only.refl (w.heap.size + 1) _).set 6 (.string k)) (by omega)) ((Only.refl (w.heap.size + 1) _).set 7 (.string t)) (by omega), (((((((((HD.out).only ((Only.refl w.heap.size _).set 0 (.int .i64 n)) (by omega)).only ((Only.refl (w.heap.size + 1) _).set 0 (.int .i64 n)) (by omega)).only ((Only.refl (w.heap.size + 1) _).set 1 (.int .i64 seq)) (by omega)).only ((Only.refl (w.heap.size + 1) _).set 2 (.int .i64 op)) (by omega)).only ((Only.refl (w.heap.size + 1) _).set 3 (.int .i64 a)) (by omega)).only ((Only.refl (w.heap.size + 1) _).set 4 (.int .i64 b)) (by omega)).only ((Only.refl (w.heap.size + 1) _).set 5 (.int .i64 c)) (by omega)).only ((Only.refl (w.heap.size + 1) _).set 6 (.string k)) (by omega)).only ((Only.refl (w.heap.size + 1) _).set 7 (.string t)) (by omega)⟩
  by_cases e1 : q = 1
  · subst e1
    have HI := hidP (newInC w1 ([⟨0⟩, ⟨-1⟩, ⟨100000⟩, ⟨100001⟩] : List Nu) #[.int .i64 (0), .int .i64 (-1), .int .i64 (100000), .int .i64 (100001)] 3 rfl)
    go_wp2_with fail
    refine (pick_any C A cap l w1.heap.size 0 4 ([⟨0⟩, ⟨-1⟩, ⟨100000⟩, ⟨100001⟩] : List Nu) (by simp) (by simp) _ ((HD.out).below (alloc0 (Below.refl _ _) (.cells #[.int .i64 (0), .int .i64 (-1), .int .i64 (100000), .int .i64 (100001)] 3))) (by simp) (by omega) HI.out).mono ?_
    rintro e w2 ⟨y, hy, rfl, o_, d_⟩
    replace bR : Blk w2 (w.heap.size + 1) 35 #[.int .i64 0, .int .i64 0, .int .i64 0, .int .i64 0, .int .i64 0, .int .i64 0, .string ⟨#[]⟩, .string ⟨#[]⟩] := ((bR).alloc (.cells #[.int .i64 (0), .int .i64 (-1), .int .i64 (100000), .int .i64 (100001)] 3)).only o_ (by omega)
    replace bX : Blk w2 w.heap.size 35 #[.int .i64 who, .int .i64 seq, .int .i64 op, .int .i64 a, .int .i64 b, .int .i64 c, .string k, .string t] := ((bX).alloc (.cells #[.int .i64 (0), .int .i64 (-1), .int .i64 (100000), .int .i64 (100001)] 3)).only o_ (by omega)
    have q_ := o_.size
    try simp only [World.size_alloc, World.size_setCell] at q_
    replace HO := hidP (((HO.out).below (alloc0 (Below.refl _ _) (.cells #[.int .i64 (0), .int .i64 (-1), .int .i64 (100000), .int .i64 (100001)] 3))).trans o_)
    replace HD := hidP d_
    clear o_ d_
    generalize y.n = n at *
    clear hy HI
    clear cx0 cx1 cx2 cx3 cx4 cx5 cx6 cx7 fx0 fx1 fx2 fx3 fx4 fx5 fx6 fx7 qX
    have cx0 := bX.cell (i := 0) rfl
    have cx1 := bX.cell (i := 1) rfl
    have cx2 := bX.cell (i := 2) rfl
    have cx3 := bX.cell (i := 3) rfl
    have cx4 := bX.cell (i := 4) rfl
    have cx5 := bX.cell (i := 5) rfl
    have cx6 := bX.cell (i := 6) rfl
    have cx7 := bX.cell (i := 7) rfl
    have fx0 := bX.thaw 0
    have fx1 := bX.thaw 1
    have fx2 := bX.thaw 2
    have fx3 := bX.thaw 3
    have fx4 := bX.thaw 4
    have fx5 := bX.thaw 5
    have fx6 := bX.thaw 6
    have fx7 := bX.thaw 7
    have qX := bX.lt
    have rr0 := bR.cell (i := 0) rfl
    have rr1 := bR.cell (i := 1) rfl
    have rr2 := bR.cell (i := 2) rfl
    have rr3 := bR.cell (i := 3) rfl
    have rr4 := bR.cell (i := 4) rfl
    have rr5 := bR.cell (i := 5) rfl
    have rr6 := bR.cell (i := 6) rfl
    have rr7 := bR.cell (i := 7) rfl
    have zz0 := bR.thaw 0
    have zz1 := bR.thaw 1
    have zz2 := bR.thaw 2
    have zz3 := bR.thaw 3
    have zz4 := bR.thaw 4
    have zz5 := bR.thaw 5
    have zz6 := bR.thaw 6
    have zz7 := bR.thaw 7
    have qR := bR.lt
    have hF : Hid (∀ W, Only C w W → Drawn W C A cap l → Only C w W) := hidP (fun _ h _ => h)
    clear hF
    go_wp2
    exact bodyPost_ret (v := .agg #[.int .i64 who, .int .i64 n, .int .i64 op, .int .i64 a, .int .i64 b, .int .i64 c, .string k, .string t]) (by simp [results, Try.results69, go_sem, rr0, rr1, rr2, rr3, rr4, rr5, rr6, rr7, hRX]) rfl ⟨who, n, op, a, b, c, k, t, rfl, hk, ht, only_newC (only_newC (only_newC (only_newC (only_newC (only_newC (only_newC (only_newC (only_newC (HO.out) ((Only.refl w.heap.size _).set 1 (.int .i64 n)) (by omega)) ((Only.refl (w.heap.size + 1) _).set 0 (.int .i64 who)) (by omega)) ((Only.refl (w.heap.size + 1) _).set 1 (.int .i64 n)) (by omega)) ((Only.refl (w.heap.size + 1) _).set 2 (.int .i64 op)) (by omega)) ((Only.refl (w.heap.size + 1) _).set 3 (.int .i64 a)) (by omega)) ((Only.refl (w.heap.size + 1) _).set 4 (.int .i64 b)) (by omega)) ((Only.refl (w.heap.size + 1) _).set 5 (.int .i64 c)) (by omega)) ((Only.refl (w.heap.size + 1) _).set 6 (.string k)) (by omega)) ((Only.refl (w.heap.size + 1) _).set 7 (.string t)) (by omega), (((((((((HD.out).only ((Only.refl w.heap.size _).set 1 (.int .i64 n)) (by omega)).only ((Only.refl (w.heap.size + 1) _).set 0 (.int .i64 who)) (by omega)).only ((Only.refl (w.heap.size + 1) _).set 1 (.int .i64 n)) (by omega)).only ((Only.refl (w.heap.size + 1) _).set 2 (.int .i64 op)) (by omega)).only ((Only.refl (w.heap.size + 1) _).set 3 (.int .i64 a)) (by omega)).only ((Only.refl (w.heap.size + 1) _).set 4 (.int .i64 b)) (by omega)).only ((Only.refl (w.heap.size + 1) _).set 5 (.int .i64 c)) (by omega)).only ((Only.refl (w.heap.size + 1) _).set 6 (.string k)) (by omega)).only ((Only.refl (w.heap.size + 1) _).set 7 (.string t)) (by omega)⟩
  by_cases e2 : q = 2
  · subst e2
    have HI := hidP (newInC w1 ([⟨-1⟩, ⟨0⟩, ⟨10⟩, ⟨11⟩] : List Nu) #[.int .i64 (-1), .int .i64 (0), .int .i64 (10), .int .i64 (11)] 3 rfl)
    go_wp2_with fail
    refine (pick_any C A cap l w1.heap.size 0 4 ([⟨-1⟩, ⟨0⟩, ⟨10⟩, ⟨11⟩] : List Nu) (by simp) (by simp) _ ((HD.out).below (alloc0 (Below.refl _ _) (.cells #[.int .i64 (-1), .int .i64 (0), .int .i64 (10), .int .i64 (11)] 3))) (by simp) (by omega) HI.out).mono ?_
    rintro e w2 ⟨y, hy, rfl, o_, d_⟩
    replace bR : Blk w2 (w.heap.size + 1) 35 #[.int .i64 0, .int .i64 0, .int .i64 0, .int .i64 0, .int .i64 0, .int .i64 0, .string ⟨#[]⟩, .string ⟨#[]⟩] := ((bR).alloc (.cells #[.int .i64 (-1), .int .i64 (0), .int .i64 (10), .int .i64 (11)] 3)).only o_ (by omega)
    replace bX : Blk w2 w.heap.size 35 #[.int .i64 who, .int .i64 seq, .int .i64 op, .int .i64 a, .int .i64 b, .int .i64 c, .string k, .string t] := ((bX).alloc (.cells #[.int .i64 (-1), .int .i64 (0), .int .i64 (10), .int .i64 (11)] 3)).only o_ (by omega)
    have q_ := o_.size
    try simp only [World.size_alloc, World.size_setCell] at q_
    replace HO := hidP (((HO.out).below (alloc0 (Below.refl _ _) (.cells #[.int .i64 (-1), .int .i64 (0), .int .i64 (10), .int .i64 (11)] 3))).trans o_)
    replace HD := hidP d_
    clear o_ d_
    generalize y.n = n at *
    clear hy HI
    clear cx0 cx1 cx2 cx3 cx4 cx5 cx6 cx7 fx0 fx1 fx2 fx3 fx4 fx5 fx6 fx7 qX
    have cx0 := bX.cell (i := 0) rfl
    have cx1 := bX.cell (i := 1) rfl
    have cx2 := bX.cell (i := 2) rfl
    have cx3 := bX.cell (i := 3) rfl
    have cx4 := bX.cell (i := 4) rfl
    have cx5 := bX.cell (i := 5) rfl
    have cx6 := bX.cell (i := 6) rfl
    have cx7 := bX.cell (i := 7) rfl
    have fx0 := bX.thaw 0
    have fx1 := bX.thaw 1
    have fx2 := bX.thaw 2
    have fx3 := bX.thaw 3
    have fx4 := bX.thaw 4
    have fx5 := bX.thaw 5
    have fx6 := bX.thaw 6
    have fx7 := bX.thaw 7
    have qX := bX.lt
    have rr0 := bR.cell (i := 0) rfl
    have rr1 := bR.cell (i := 1) rfl
    have rr2 := bR.cell (i := 2) rfl
    have rr3 := bR.cell (i := 3) rfl
    have rr4 := bR.cell (i := 4) rfl
    have rr5 := bR.cell (i := 5) rfl
    have rr6 := bR.cell (i := 6) rfl
    have rr7 := bR.cell (i := 7) rfl
    have zz0 := bR.thaw 0
    have zz1 := bR.thaw 1
    have zz2 := bR.thaw 2
    have zz3 := bR.thaw 3
    have zz4 := bR.thaw 4
    have zz5 := bR.thaw 5
    have zz6 := bR.thaw 6
    have zz7 := bR.thaw 7
    have qR := bR.lt
    have hF : Hid (∀ W, Only C w W → Drawn W C A cap l → Only C w W) := hidP (fun _ h _ => h)
    clear hF
    go_wp2
    exact bodyPost_ret (v := .agg #[.int .i64 who, .int .i64 seq, .int .i64 n, .int .i64 a, .int .i64 b, .int .i64 c, .string k, .string t]) (by simp [results, Try.results69, go_sem, rr0, rr1, rr2, rr3, rr4, rr5, rr6, rr7, hRX]) rfl ⟨who, seq, n, a, b, c, k, t, rfl, hk, ht, only_newC (only_newC (only_newC (only_newC (only_newC (only_newC (only_newC (only_newC (only_newC (HO.out) ((Only.refl w.heap.size _).set 2 (.int .i64 n)) (by omega)) ((Only.refl (w.heap.size + 1) _).set 0 (.int .i64 who)) (by omega)) ((Only.refl (w.heap.size + 1) _).set 1 (.int .i64 seq)) (by omega)) ((Only.refl (w.heap.size + 1) _).set 2 (.int .i64 n)) (by omega)) ((Only.refl (w.heap.size + 1) _).set 3 (.int .i64 a)) (by omega)) ((Only.refl (w.heap.size + 1) _).set 4 (.int .i64 b)) (by omega)) ((Only.refl (w.heap.size + 1) _).set 5 (.int .i64 c)) (by omega)) ((Only.refl (w.heap.size + 1) _).set 6 (.string k)) (by omega)) ((Only.refl (w.heap.size + 1) _).set 7 (.string t)) (by omega), (((((((((HD.out).only ((Only.refl w.heap.size _).set 2 (.int .i64 n)) (by omega)).only ((Only.refl (w.heap.size + 1) _).set 0 (.int .i64 who)) (by omega)).only ((Only.refl (w.heap.size + 1) _).set 1 (.int .i64 seq)) (by omega)).only ((Only.refl (w.heap.size + 1) _).set 2 (.int .i64 n)) (by omega)).only ((Only.refl (w.heap.size + 1) _).set 3 (.int .i64 a)) (by omega)).only ((Only.refl (w.heap.size + 1) _).set 4 (.int .i64 b)) (by omega)).only ((Only.refl (w.heap.size + 1) _).set 5 (.int .i64 c)) (by omega)).only ((Only.refl (w.heap.size + 1) _).set 6 (.string k)) (by omega)).only ((Only.refl (w.heap.size + 1) _).set 7 (.string t)) (by omega)⟩
  by_cases e3 : q = 3
  · subst e3
    have HI := hidP (newInC w1 ([⟨-1⟩, ⟨100000⟩, ⟨100001⟩, ⟨-9223372036854775808⟩] : List Nu) #[.int .i64 (-1), .int .i64 (100000), .int .i64 (100001), .int .i64 (-9223372036854775808)] 3 rfl)
    go_wp2_with fail
    refine (pick_any C A cap l w1.heap.size 0 4 ([⟨-1⟩, ⟨100000⟩, ⟨100001⟩, ⟨-9223372036854775808⟩] : List Nu) (by simp) (by simp) _ ((HD.out).below (alloc0 (Below.refl _ _) (.cells #[.int .i64 (-1), .int .i64 (100000), .int .i64 (100001), .int .i64 (-9223372036854775808)] 3))) (by simp) (by omega) HI.out).mono ?_
    rintro e w2 ⟨y, hy, rfl, o_, d_⟩
    replace bR : Blk w2 (w.heap.size + 1) 35 #[.int .i64 0, .int .i64 0, .int .i64 0, .int .i64 0, .int .i64 0, .int .i64 0, .string ⟨#[]⟩, .string ⟨#[]⟩] := ((bR).alloc (.cells #[.int .i64 (-1), .int .i64 (100000), .int .i64 (100001), .int .i64 (-9223372036854775808)] 3)).only o_ (by omega)
    replace bX : Blk w2 w.heap.size 35 #[.int .i64 who, .int .i64 seq, .int .i64 op, .int .i64 a, .int .i64 b, .int .i64 c, .string k, .string t] := ((bX).alloc (.cells #[.int .i64 (-1), .int .i64 (100000), .int .i64 (100001), .int .i64 (-9223372036854775808)] 3)).only o_ (by omega)
    have q_ := o_.size
    try simp only [World.size_alloc, World.size_setCell] at q_
    replace HO := hidP (((HO.out).below (alloc0 (Below.refl _ _) (.cells #[.int .i64 (-1), .int .i64 (100000), .int .i64 (100001), .int .i64 (-9223372036854775808)] 3))).trans o_)
    replace HD := hidP d_
    clear o_ d_
    generalize y.n = n at *
    clear hy HI
    clear cx0 cx1 cx2 cx3 cx4 cx5 cx6 cx7 fx0 fx1 fx2 fx3 fx4 fx5 fx6 fx7 qX
    have cx0 := bX.cell (i := 0) rfl
    have cx1 := bX.cell (i := 1) rfl
    have cx2 := bX.cell (i := 2) rfl
    have cx3 := bX.cell (i := 3) rfl
    have cx4 := bX.cell (i := 4) rfl
    have cx5 := bX.cell (i := 5) rfl
    have cx6 := bX.cell (i := 6) rfl
    have cx7 := bX.cell (i := 7) rfl
    have fx0 := bX.thaw 0
    have fx1 := bX.thaw 1
    have fx2 := bX.thaw 2
    have fx3 := bX.thaw 3
    have fx4 := bX.thaw 4
    have fx5 := bX.thaw 5
    have fx6 := bX.thaw 6
    have fx7 := bX.thaw 7
    have qX := bX.lt
    have rr0 := bR.cell (i := 0) rfl
    have rr1 := bR.cell (i := 1) rfl
    have rr2 := bR.cell (i := 2) rfl
    have rr3 := bR.cell (i := 3) rfl
    have rr4 := bR.cell (i := 4) rfl
    have rr5 := bR.cell (i := 5) rfl
    have rr6 := bR.cell (i := 6) rfl
    have rr7 := bR.cell (i := 7) rfl
    have zz0 := bR.thaw 0
    have zz1 := bR.thaw 1
    have zz2 := bR.thaw 2
    have zz3 := bR.thaw 3
    have zz4 := bR.thaw 4
    have zz5 := bR.thaw 5
    have zz6 := bR.thaw 6
    have zz7 := bR.thaw 7
    have qR := bR.lt
    have hF : Hid (∀ W, Only C w W → Drawn W C A cap l → Only C w W) := hidP (fun _ h _ => h)
    clear hF
    go_wp2
    exact bodyPost_ret (v := .agg #[.int .i64 who, .int .i64 seq, .int .i64 op, .int .i64 n, .int .i64 b, .int .i64 c, .string k, .string t]) (by simp [results, Try.results69, go_sem, rr0, rr1, rr2, rr3, rr4, rr5, rr6, rr7, hRX]) rfl ⟨who, seq, op, n, b, c, k, t, rfl, hk, ht, only_newC (only_newC (only_newC (only_newC (only_newC (only_newC (only_newC (only_newC (only_newC (HO.out) ((Only.refl w.heap.size _).set 3 (.int .i64 n)) (by omega)) ((Only.refl (w.heap.size + 1) _).set 0 (.int .i64 who)) (by omega)) ((Only.refl (w.heap.size + 1) _).set 1 (.int .i64 seq)) (by omega)) ((Only.refl (w.heap.size + 1) _).set 2 (.int .i64 op)) (by omega)) ((Only.refl (w.heap.size + 1) _).set 3 (.int .i64 n)) (by omega)) ((Only.refl (w.heap.size + 1) _).set 4 (.int .i64 b)) (by omega)) ((Only.refl (w.heap.size + 1) _).set 5 (.int .i64 c)) (by omega)) ((Only.refl (w.heap.size + 1) _).set 6 (.string k)) (by omega)) ((Only.refl (w.heap.size + 1) _).set 7 (.string t)) (by omega), (((((((((HD.out).only ((Only.refl w.heap.size _).set 3 (.int .i64 n)) (by omega)).only ((Only.refl (w.heap.size + 1) _).set 0 (.int .i64 who)) (by omega)).only ((Only.refl (w.heap.size + 1) _).set 1 (.int .i64 seq)) (by omega)).only ((Only.refl (w.heap.size + 1) _).set 2 (.int .i64 op)) (by omega)).only ((Only.refl (w.heap.size + 1) _).set 3 (.int .i64 n)) (by omega)).only ((Only.refl (w.heap.size + 1) _).set 4 (.int .i64 b)) (by omega)).only ((Only.refl (w.heap.size + 1) _).set 5 (.int .i64 c)) (by omega)).only ((Only.refl (w.heap.size + 1) _).set 6 (.string k)) (by omega)).only ((Only.refl (w.heap.size + 1) _).set 7 (.string t)) (by omega)⟩
  by_cases e4 : q = 4
  · subst e4
    have HI := hidP (newInC w1 ([⟨⟨#[65]⟩⟩, ⟨⟨#[48, 49, 50, 51, 52, 53, 54, 55, 56, 57, 48, 49, 50, 51, 52, 53, 54, 55, 56, 57, 48, 49, 50, 51, 52, 53, 54, 55, 56, 57, 48]⟩⟩] : List St) #[.string ⟨#[65]⟩, .string ⟨#[48, 49, 50, 51, 52, 53, 54, 55, 56, 57, 48, 49, 50, 51, 52, 53, 54, 55, 56, 57, 48, 49, 50, 51, 52, 53, 54, 55, 56, 57, 48]⟩] 9 rfl)
    go_wp2_with fail
    refine (pickS_any C A cap l w1.heap.size 0 2 ([⟨⟨#[65]⟩⟩, ⟨⟨#[48, 49, 50, 51, 52, 53, 54, 55, 56, 57, 48, 49, 50, 51, 52, 53, 54, 55, 56, 57, 48, 49, 50, 51, 52, 53, 54, 55, 56, 57, 48]⟩⟩] : List St) (by simp) (by simp) _ ((HD.out).below (alloc0 (Below.refl _ _) (.cells #[.string ⟨#[65]⟩, .string ⟨#[48, 49, 50, 51, 52, 53, 54, 55, 56, 57, 48, 49, 50, 51, 52, 53, 54, 55, 56, 57, 48, 49, 50, 51, 52, 53, 54, 55, 56, 57, 48]⟩] 9))) (by simp) (by omega) HI.out).mono ?_
    rintro e w2 ⟨y, hy, rfl, o_, d_⟩
    replace bR : Blk w2 (w.heap.size + 1) 35 #[.int .i64 0, .int .i64 0, .int .i64 0, .int .i64 0, .int .i64 0, .int .i64 0, .string ⟨#[]⟩, .string ⟨#[]⟩] := ((bR).alloc (.cells #[.string ⟨#[65]⟩, .string ⟨#[48, 49, 50, 51, 52, 53, 54, 55, 56, 57, 48, 49, 50, 51, 52, 53, 54, 55, 56, 57, 48, 49, 50, 51, 52, 53, 54, 55, 56, 57, 48]⟩] 9)).only o_ (by omega)
    replace bX : Blk w2 w.heap.size 35 #[.int .i64 who, .int .i64 seq, .int .i64 op, .int .i64 a, .int .i64 b, .int .i64 c, .string k, .string t] := ((bX).alloc (.cells #[.string ⟨#[65]⟩, .string ⟨#[48, 49, 50, 51, 52, 53, 54, 55, 56, 57, 48, 49, 50, 51, 52, 53, 54, 55, 56, 57, 48, 49, 50, 51, 52, 53, 54, 55, 56, 57, 48]⟩] 9)).only o_ (by omega)
    have q_ := o_.size
    try simp only [World.size_alloc, World.size_setCell] at q_
    replace HO := hidP (((HO.out).below (alloc0 (Below.refl _ _) (.cells #[.string ⟨#[65]⟩, .string ⟨#[48, 49, 50, 51, 52, 53, 54, 55, 56, 57, 48, 49, 50, 51, 52, 53, 54, 55, 56, 57, 48, 49, 50, 51, 52, 53, 54, 55, 56, 57, 48]⟩] 9))).trans o_)
    replace HD := hidP d_
    clear o_ d_
    have hk2 : y.s.size ≤ 40 := by
      simp only [List.mem_cons, List.not_mem_nil, or_false] at hy
      rcases hy with rfl | rfl <;> decide
    generalize y.s = k2 at *
    clear hy HI
    clear cx0 cx1 cx2 cx3 cx4 cx5 cx6 cx7 fx0 fx1 fx2 fx3 fx4 fx5 fx6 fx7 qX
    have cx0 := bX.cell (i := 0) rfl
    have cx1 := bX.cell (i := 1) rfl
    have cx2 := bX.cell (i := 2) rfl
    have cx3 := bX.cell (i := 3) rfl
    have cx4 := bX.cell (i := 4) rfl
    have cx5 := bX.cell (i := 5) rfl
    have cx6 := bX.cell (i := 6) rfl
    have cx7 := bX.cell (i := 7) rfl
    have fx0 := bX.thaw 0
    have fx1 := bX.thaw 1
    have fx2 := bX.thaw 2
    have fx3 := bX.thaw 3
    have fx4 := bX.thaw 4
    have fx5 := bX.thaw 5
    have fx6 := bX.thaw 6
    have fx7 := bX.thaw 7
    have qX := bX.lt
    have rr0 := bR.cell (i := 0) rfl
    have rr1 := bR.cell (i := 1) rfl
    have rr2 := bR.cell (i := 2) rfl
    have rr3 := bR.cell (i := 3) rfl
    have rr4 := bR.cell (i := 4) rfl
    have rr5 := bR.cell (i := 5) rfl
    have rr6 := bR.cell (i := 6) rfl
    have rr7 := bR.cell (i := 7) rfl
    have zz0 := bR.thaw 0
    have zz1 := bR.thaw 1
    have zz2 := bR.thaw 2
    have zz3 := bR.thaw 3
    have zz4 := bR.thaw 4
    have zz5 := bR.thaw 5
    have zz6 := bR.thaw 6
    have zz7 := bR.thaw 7
    have qR := bR.lt
    have hF : Hid (∀ W, Only C w W → Drawn W C A cap l → Only C w W) := hidP (fun _ h _ => h)
    clear hF
    go_wp2
    exact bodyPost_ret (v := .agg #[.int .i64 who, .int .i64 seq, .int .i64 op, .int .i64 a, .int .i64 b, .int .i64 c, .string k2, .string t]) (by simp [results, Try.results69, go_sem, rr0, rr1, rr2, rr3, rr4, rr5, rr6, rr7, hRX]) rfl ⟨who, seq, op, a, b, c, k2, t, rfl, hk2, ht, only_newC (only_newC (only_newC (only_newC (only_newC (only_newC (only_newC (only_newC (only_newC (HO.out) ((Only.refl w.heap.size _).set 6 (.string k2)) (by omega)) ((Only.refl (w.heap.size + 1) _).set 0 (.int .i64 who)) (by omega)) ((Only.refl (w.heap.size + 1) _).set 1 (.int .i64 seq)) (by omega)) ((Only.refl (w.heap.size + 1) _).set 2 (.int .i64 op)) (by omega)) ((Only.refl (w.heap.size + 1) _).set 3 (.int .i64 a)) (by omega)) ((Only.refl (w.heap.size + 1) _).set 4 (.int .i64 b)) (by omega)) ((Only.refl (w.heap.size + 1) _).set 5 (.int .i64 c)) (by omega)) ((Only.refl (w.heap.size + 1) _).set 6 (.string k2)) (by omega)) ((Only.refl (w.heap.size + 1) _).set 7 (.string t)) (by omega), (((((((((HD.out).only ((Only.refl w.heap.size _).set 6 (.string k2)) (by omega)).only ((Only.refl (w.heap.size + 1) _).set 0 (.int .i64 who)) (by omega)).only ((Only.refl (w.heap.size + 1) _).set 1 (.int .i64 seq)) (by omega)).only ((Only.refl (w.heap.size + 1) _).set 2 (.int .i64 op)) (by omega)).only ((Only.refl (w.heap.size + 1) _).set 3 (.int .i64 a)) (by omega)).only ((Only.refl (w.heap.size + 1) _).set 4 (.int .i64 b)) (by omega)).only ((Only.refl (w.heap.size + 1) _).set 5 (.int .i64 c)) (by omega)).only ((Only.refl (w.heap.size + 1) _).set 6 (.string k2)) (by omega)).only ((Only.refl (w.heap.size + 1) _).set 7 (.string t)) (by omega)⟩
  have rr0 := bR.cell (i := 0) rfl
  have rr1 := bR.cell (i := 1) rfl
  have rr2 := bR.cell (i := 2) rfl
  have rr3 := bR.cell (i := 3) rfl
  have rr4 := bR.cell (i := 4) rfl
  have rr5 := bR.cell (i := 5) rfl
  have rr6 := bR.cell (i := 6) rfl
  have rr7 := bR.cell (i := 7) rfl
  have zz0 := bR.thaw 0
  have zz1 := bR.thaw 1
  have zz2 := bR.thaw 2
  have zz3 := bR.thaw 3
  have zz4 := bR.thaw 4
  have zz5 := bR.thaw 5
  have zz6 := bR.thaw 6
  have zz7 := bR.thaw 7
  have qR := bR.lt
  have hF : Hid (∀ W, Only C w W → Drawn W C A cap l → Only C w W) := hidP (fun _ h _ => h)
  clear hF
  go_wp2
  exact bodyPost_ret (v := .agg #[.int .i64 who, .int .i64 seq, .int .i64 op, .int .i64 a, .int .i64 b, .int .i64 c, .string k, .string t]) (by simp [results, Try.results69, go_sem, rr0, rr1, rr2, rr3, rr4, rr5, rr6, rr7, hRX]) rfl ⟨who, seq, op, a, b, c, k, t, rfl, hk, ht, only_newC (only_newC (only_newC (only_newC (only_newC (only_newC (only_newC (only_newC (HO.out) ((Only.refl (w.heap.size + 1) _).set 0 (.int .i64 who)) (by omega)) ((Only.refl (w.heap.size + 1) _).set 1 (.int .i64 seq)) (by omega)) ((Only.refl (w.heap.size + 1) _).set 2 (.int .i64 op)) (by omega)) ((Only.refl (w.heap.size + 1) _).set 3 (.int .i64 a)) (by omega)) ((Only.refl (w.heap.size + 1) _).set 4 (.int .i64 b)) (by omega)) ((Only.refl (w.heap.size + 1) _).set 5 (.int .i64 c)) (by omega)) ((Only.refl (w.heap.size + 1) _).set 6 (.string k)) (by omega)) ((Only.refl (w.heap.size + 1) _).set 7 (.string t)) (by omega), ((((((((HD.out).only ((Only.refl (w.heap.size + 1) _).set 0 (.int .i64 who)) (by omega)).only ((Only.refl (w.heap.size + 1) _).set 1 (.int .i64 seq)) (by omega)).only ((Only.refl (w.heap.size + 1) _).set 2 (.int .i64 op)) (by omega)).only ((Only.refl (w.heap.size + 1) _).set 3 (.int .i64 a)) (by omega)).only ((Only.refl (w.heap.size + 1) _).set 4 (.int .i64 b)) (by omega)).only ((Only.refl (w.heap.size + 1) _).set 5 (.int .i64 c)) (by omega)).only ((Only.refl (w.heap.size + 1) _).set 6 (.string k)) (by omega)).only ((Only.refl (w.heap.size + 1) _).set 7 (.string t)) (by omega)⟩
end Go.Proofs.Ytjmaifmcoepfdaa.Gen
