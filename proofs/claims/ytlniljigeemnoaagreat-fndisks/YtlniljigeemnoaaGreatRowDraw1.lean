/-
  Texts that are drawn.
-/
import Derived.Test.YtlniljigeemnoaaGreatCmdB
set_option linter.unusedVariables false
set_option linter.unusedSimpArgs false
set_option maxRecDepth 100000
set_option maxHeartbeats 8000000
namespace Go.Proofs.YtlniljigeemnoaaGreat.Gen
open ChangeShapes WideShapes ChangeAt RowKit Joins Deep Base
structure St where
  s : ByteArray
instance : Inhabited St := ⟨⟨⟨#[]⟩⟩⟩
instance : Cel St where
  k := 1
  cs x := [.string x.s]
  len _ := rfl
  one x u hu := by simp at hu; subst hu; rfl
theorem In.getSt {w : World} {b o : Nat} {l : List St} (h : In w b o l) (i : Nat) (hi : i < l.length) : w.cell? ⟨b, o + i, none⟩ = some (.string l[i].s) := by
 have := h.cell i hi (f := 0) rfl
 rwa [show (Cel.k St) = 1 from rfl, Nat.mul_one, Nat.add_zero] at this
theorem pickS_any (C : Nat) (A : Option Addr) (cap : Nat) (l : List By) (b o c : Nat) (ns : List St) (h1 : 1 <= ns.length) (h2 : ns.length <= 256) (w : World) (hD : Drawn w C A cap l) (hb : b < w.heap.size) (hbC : b ≠ C) (hin : In w b o ns) :
 Calls Tryz.prog 94 #[.pointer (some ⟨C, 0, none⟩), .slice (some ⟨b, o, none⟩) ns.length c] w fun e w' => ∃ x ∈ ns, e = .returned (.string x.s) /\ Only C w w' /\ Drawn w' C A cap l := by
 have HD := hidP hD
 have Hin := hidP hin
 clear hD hin
 go_enter Tryz.func94, Tryz.ntmps94
 go_wp2_with fail
 refine (Qa7 C A cap l ns.length (by omega) (by omega) _ HD.out).mono ?_
 rintro e w1 ⟨x, rfl, hx0, hx1, k1, d1⟩
 obtain ⟨j, rfl⟩ : ∃ j : Nat, x = (j : Int) := ⟨x.toNat, by omega⟩
 have hj : j < ns.length := by omega
 have cx := (Hin.out.only k1 hb hbC).getSt j hj
 have hk := hidP k1
 have hd := hidP d1
 clear k1 d1
 go_wp2
 go_ret
 exact ⟨ns[j], List.getElem_mem hj, rfl, hk.out, hd.out⟩
def five : List St := [⟨⟨#[]⟩⟩, ⟨⟨#[97]⟩⟩, ⟨⟨#[98]⟩⟩, ⟨⟨#[107, 32, 49]⟩⟩, ⟨⟨#[116, 101, 120, 116]⟩⟩]
theorem five_right : ∀ x ∈ five, Items.textB x.s = true /\ x.s.size <= 30 := by
 intro x hx
 simp only [five, List.mem_cons, List.not_mem_nil, or_false] at hx
 rcases hx with rfl | rfl | rfl | rfl | rfl<;>exact ⟨by decide +kernel, by decide⟩
theorem text_any (C : Nat) (A : Option Addr) (cap : Nat) (l : List By) (w : World) (hD : Drawn w C A cap l) :
 Calls Tryz.prog 87 #[.pointer (some ⟨C, 0, none⟩)] w fun e w' => ∃ k : ByteArray, e = .returned (.string k) /\ Items.textB k = true /\ k.size <= 30 /\ Only C w w' /\ Drawn w' C A cap l := by
 have HD := hidP hD
 have hC := hD.lt
 clear hD
 have bx := Blk.new w 9 (l1TTTTT ⟨#[]⟩ ⟨#[97]⟩ ⟨#[98]⟩ ⟨#[107, 32, 49]⟩ ⟨#[116, 101, 120, 116]⟩)
 have hin : In (w.alloc (.cells (l1TTTTT ⟨#[]⟩ ⟨#[97]⟩ ⟨#[98]⟩ ⟨#[107, 32, 49]⟩ ⟨#[116, 101, 120, 116]⟩) 9)) w.heap.size 0 five := fun j u hu => bx.cell (i := 0 + j) (by simpa [flat, Cel.cs, five] using hu)
 have Hin := hidP hin
 clear hin bx
 go_enter Tryz.func87, Tryz.ntmps87
 go_wp2_with fail
 refine (pickS_any C A cap l w.heap.size 0 5 five (by decide) (by decide) _ (HD.out.below (Qaf (Below.refl _ _) _)) (by simp) (by omega) Hin.out).mono ?_
 rintro e w1 ⟨x, hx, rfl, k1, d1⟩
 have hk := hidP ((Only.of_below (c := C) (Qaf (Below.refl _ w) _)).trans k1)
 have hd := hidP d1
 have hr := hidP (five_right x hx)
 clear k1 d1
 go_wp2
 go_ret
 exact ⟨x.s, rfl, hr.out.1, hr.out.2, hk.out, hd.out⟩
theorem Qap {b B : Nat} {w w1 w2 : World} (h : Only b w w1) (k : Only B w1 w2) (hB : w.heap.size <= B) : Only b w w2 :=
 ⟨k.os.trans h.os, k.tape.trans h.tape, k.output.trans h.output, Nat.le_trans h.size k.size, fun i hi hb => (k.block i (Nat.lt_of_lt_of_le hi h.size) (by omega)).trans (h.block i hi hb)⟩
theorem Qe3 {α : Type} [Cel α] (W : World) (L : List α) (cs : Array Value) (tt : TypeId) (h : cs.toList = flat L) : In (W.alloc (.cells cs tt)) W.heap.size 0 L := by
 intro j v hv
 rw [← h] at hv
 exact (Blk.new W tt cs).cell (i := 0 + j) (by simpa using hv)
structure Tx (k : ByteArray) : Prop where
  ok : Items.textB k = true
  le : k.size <= 30
theorem tx_nil : Tx ⟨#[]⟩ := ⟨by decide +kernel, by decide⟩
structure Bd (op a b c : Int) (k t : ByteArray) : Prop where
  op : 1 <= op /\ op <= 10
  a : 0 <= a /\ a <= 60
  b : 0 <= b /\ b <= 3
  c : 0 <= c /\ c <= 2
  k : Tx k
  t : Tx t
theorem Qh5 (C : Nat) (A : Option Addr) (cap : Nat) (l : List By) (w : World) (hD : Drawn w C A cap l) :
 Calls Tryz.prog 82 #[.pointer (some ⟨C, 0, none⟩)] w fun e w' => ∃ (op a b c : Int) (k t : ByteArray), e = .returned (.agg (Qad 0 0 op a b c k t)) /\ Bd op a b c k t /\ Only C w w' /\ Drawn w' C A cap l := by
 have hC := hD.lt
 have HD0 := hidP hD
 clear hD
 have bR := Blk.new w 105 Qa5
 have HO := hidP (Only.of_below (c := C) (Qaf (Below.refl _ w) (.cells Qa5 105)))
 have HD := hidP (HD0.out.below (Qaf (Below.refl _ w) (.cells Qa5 105)))
 have HI := hidP (Qe3 (w.alloc (.cells Qa5 105)) ([⟨1⟩, ⟨1⟩, ⟨1⟩, ⟨2⟩, ⟨2⟩, ⟨3⟩, ⟨4⟩, ⟨4⟩, ⟨5⟩, ⟨6⟩, ⟨7⟩, ⟨8⟩, ⟨9⟩, ⟨10⟩] : List Nu) (Qb4 (1) (1) (1) (2) (2) (3) (4) (4) (5) (6) (7) (8) (9) (10)) 3 rfl)
 rw [World.size_alloc] at HI
 clear HD0
 go_enter Tryz.func82, Tryz.ntmps82
 go_wp2_with fail
 refine (Qcy C A cap l (w.heap.size + 1) 0 14 ([⟨1⟩, ⟨1⟩, ⟨1⟩, ⟨2⟩, ⟨2⟩, ⟨3⟩, ⟨4⟩, ⟨4⟩, ⟨5⟩, ⟨6⟩, ⟨7⟩, ⟨8⟩, ⟨9⟩, ⟨10⟩] : List Nu) (by simp) (by simp) _ ((HD.out).below (Qaf (Below.refl _ _) (.cells (Qb4 (1) (1) (1) (2) (2) (3) (4) (4) (5) (6) (7) (8) (9) (10)) 3))) (by simp) (by omega) HI.out).mono ?_
 rintro e w1 ⟨y1, hy1, rfl, o_, d_⟩
 replace bR : Blk w1 w.heap.size 105 Qa5 := ((bR).alloc (.cells (Qb4 (1) (1) (1) (2) (2) (3) (4) (4) (5) (6) (7) (8) (9) (10)) 3)).only o_ (by omega)
 have q_ := o_.size
 try simp only [World.size_alloc, World.size_setCell] at q_
 replace HO := hidP (((HO.out).below (Qaf (Below.refl _ _) (.cells (Qb4 (1) (1) (1) (2) (2) (3) (4) (4) (5) (6) (7) (8) (9) (10)) 3))).trans o_)
 replace HD := hidP d_
 clear o_ d_
 have h1 : 1 <= y1.n /\ y1.n <= 10 := by
  simp only [List.mem_cons, List.not_mem_nil, or_false] at hy1
  rcases hy1 with rfl | rfl | rfl | rfl | rfl | rfl | rfl | rfl | rfl | rfl | rfl | rfl | rfl | rfl<;>exact ⟨by decide, by decide⟩
 generalize y1.n = op at *
 clear hy1 HI
 go_wp2_with fail
 refine (Qa7 C A cap l 3 (by omega) (by omega) _ (HD.out)).mono ?_
 rintro e w2 ⟨a, rfl, ha0, ha1, o_, d_⟩
 replace bR : Blk w2 w.heap.size 105 Qa5 := (bR).only o_ (by omega)
 have q_ := o_.size
 try simp only [World.size_alloc, World.size_setCell] at q_
 replace HO := hidP ((HO.out).trans o_)
 replace HD := hidP d_
 clear o_ d_
 go_wp2_with fail
 refine (Qa7 C A cap l 4 (by omega) (by omega) _ (HD.out)).mono ?_
 rintro e w3 ⟨b, rfl, hb0, hb1, o_, d_⟩
 replace bR : Blk w3 w.heap.size 105 Qa5 := (bR).only o_ (by omega)
 have q_ := o_.size
 try simp only [World.size_alloc, World.size_setCell] at q_
 replace HO := hidP ((HO.out).trans o_)
 replace HD := hidP d_
 clear o_ d_
 go_wp2_with fail
 refine (Qa7 C A cap l 3 (by omega) (by omega) _ (HD.out)).mono ?_
 rintro e w4 ⟨c, rfl, hc0, hc1, o_, d_⟩
 replace bR : Blk w4 w.heap.size 105 Qa5 := (bR).only o_ (by omega)
 have q_ := o_.size
 try simp only [World.size_alloc, World.size_setCell] at q_
 replace HO := hidP ((HO.out).trans o_)
 replace HD := hidP d_
 clear o_ d_
 have bX := Blk.new w4 105 (Qad 0 0 op a b c ⟨#[]⟩ ⟨#[]⟩)
 replace bR := bR.alloc (.cells (Qad 0 0 op a b c ⟨#[]⟩ ⟨#[]⟩) 105)
 replace HO := hidP (HO.out.below (Qaf (Below.refl _ _) (.cells (Qad 0 0 op a b c ⟨#[]⟩ ⟨#[]⟩) 105)))
 replace HD := hidP (HD.out.below (Qaf (Below.refl _ _) (.cells (Qad 0 0 op a b c ⟨#[]⟩ ⟨#[]⟩) 105)))
 have hRX : w.heap.size ≠ w4.heap.size := by omega
 by_cases e1 : op = 1
 . subst e1
   go_wp2_with fail
   refine (text_any C A cap l _ HD.out).mono ?_
   rintro e w5 ⟨k, rfl, hk1, hk2, o_, d_⟩
   have hX : w.heap.size < w4.heap.size := by omega
   generalize w4.heap.size = X at *
   replace bR : Blk w5 w.heap.size 105 Qa5 := bR.only o_ (by omega)
   replace bX : Blk w5 X 105 (Qad 0 0 1 a b c ⟨#[]⟩ ⟨#[]⟩) := bX.only o_ (by omega)
   replace HO := hidP (HO.out.trans o_)
   replace HD := hidP d_
   clear o_ d_
   have cx0 := bX.cell (i := 0) rfl
   have cx1 := bX.cell (i := 1) rfl
   have cx2 := bX.cell (i := 2) rfl
   have cx3 := bX.cell (i := 3) rfl
   have cx4 := bX.cell (i := 4) rfl
   have cx5 := bX.cell (i := 5) rfl
   have cx6 := bX.cell (i := 6) rfl
   have cx7 := bX.cell (i := 7) rfl
   have fx0 := bX.thaw 0
   have fx1 := bX.thaw 1
   have fx2 := bX.thaw 2
   have fx3 := bX.thaw 3
   have fx4 := bX.thaw 4
   have fx5 := bX.thaw 5
   have fx6 := bX.thaw 6
   have fx7 := bX.thaw 7
   have qX := bX.lt
   go_wp2_with fail
   refine (text_any C A cap l _ ((HD.out).only ((Only.refl X _).set 6 (.string k)) (by omega))).mono ?_
   rintro e w6 ⟨t, rfl, ht1, ht2, o_, d_⟩
   replace bR : Blk w6 w.heap.size 105 Qa5 := ((bR).other (B' := X) (by omega) 6 (.string k)).only o_ (by omega)
   replace bX : Blk w6 X 105 (Qad 0 0 1 a b c k ⟨#[]⟩) := ((bX).setAt 6 (.string k)).only o_ (by omega)
   have q_ := o_.size
   try simp only [World.size_alloc, World.size_setCell] at q_
   replace HO := hidP ((Qap (HO.out) ((Only.refl X _).set 6 (.string k)) (by omega)).trans o_)
   replace HD := hidP d_
   clear o_ d_
   clear cx0 cx1 cx2 cx3 cx4 cx5 cx6 cx7 fx0 fx1 fx2 fx3 fx4 fx5 fx6 fx7 qX
   have cx0 := bX.cell (i := 0) rfl
   have cx1 := bX.cell (i := 1) rfl
   have cx2 := bX.cell (i := 2) rfl
   have cx3 := bX.cell (i := 3) rfl
   have cx4 := bX.cell (i := 4) rfl
   have cx5 := bX.cell (i := 5) rfl
   have cx6 := bX.cell (i := 6) rfl
   have cx7 := bX.cell (i := 7) rfl
   have fx0 := bX.thaw 0
   have fx1 := bX.thaw 1
   have fx2 := bX.thaw 2
   have fx3 := bX.thaw 3
   have fx4 := bX.thaw 4
   have fx5 := bX.thaw 5
   have fx6 := bX.thaw 6
   have fx7 := bX.thaw 7
   have qX := bX.lt
   have HI := hidP (Qe3 (w6.setCell ⟨X, 7, none⟩ (.string t)) ([⟨0⟩, ⟨0⟩, ⟨0⟩, ⟨1⟩] : List Nu) (Qan (0) (0) (0) (1)) 3 rfl)
   rw [World.size_setCell] at HI
   go_wp2_with fail
   refine (Qcy C A cap l w6.heap.size 0 4 ([⟨0⟩, ⟨0⟩, ⟨0⟩, ⟨1⟩] : List Nu) (by simp) (by simp) _ (((HD.out).only ((Only.refl X _).set 7 (.string t)) (by omega)).below (Qaf (Below.refl _ _) (.cells (Qan (0) (0) (0) (1)) 3))) (by simp) (by omega) HI.out).mono ?_
   rintro e w7 ⟨y2, hy2, rfl, o_, d_⟩
   replace bR : Blk w7 w.heap.size 105 Qa5 := (((bR).other (B' := X) (by omega) 7 (.string t)).alloc (.cells (Qan (0) (0) (0) (1)) 3)).only o_ (by omega)
   replace bX : Blk w7 X 105 (Qad 0 0 1 a b c k t) := (((bX).setAt 7 (.string t)).alloc (.cells (Qan (0) (0) (0) (1)) 3)).only o_ (by omega)
   have q_ := o_.size
   try simp only [World.size_alloc, World.size_setCell] at q_
   replace HO := hidP (((Qap (HO.out) ((Only.refl X _).set 7 (.string t)) (by omega)).below (Qaf (Below.refl _ _) (.cells (Qan (0) (0) (0) (1)) 3))).trans o_)
   replace HD := hidP d_
   clear o_ d_
   have hc : 0 <= y2.n /\ y2.n <= 2 := by
    simp only [List.mem_cons, List.not_mem_nil, or_false] at hy2
    rcases hy2 with rfl | rfl | rfl | rfl<;>exact ⟨by decide, by decide⟩
   generalize y2.n = c2 at *
   clear hy2 HI
   clear cx0 cx1 cx2 cx3 cx4 cx5 cx6 cx7 fx0 fx1 fx2 fx3 fx4 fx5 fx6 fx7 qX
   have cx0 := bX.cell (i := 0) rfl
   have cx1 := bX.cell (i := 1) rfl
   have cx2 := bX.cell (i := 2) rfl
   have cx3 := bX.cell (i := 3) rfl
   have cx4 := bX.cell (i := 4) rfl
   have cx5 := bX.cell (i := 5) rfl
   have cx6 := bX.cell (i := 6) rfl
   have cx7 := bX.cell (i := 7) rfl
   have fx0 := bX.thaw 0
   have fx1 := bX.thaw 1
   have fx2 := bX.thaw 2
   have fx3 := bX.thaw 3
   have fx4 := bX.thaw 4
   have fx5 := bX.thaw 5
   have fx6 := bX.thaw 6
   have fx7 := bX.thaw 7
   have qX := bX.lt
   have rr0 := bR.cell (i := 0) rfl
   have rr1 := bR.cell (i := 1) rfl
   have rr2 := bR.cell (i := 2) rfl
   have rr3 := bR.cell (i := 3) rfl
   have rr4 := bR.cell (i := 4) rfl
   have rr5 := bR.cell (i := 5) rfl
   have rr6 := bR.cell (i := 6) rfl
   have rr7 := bR.cell (i := 7) rfl
   have zz0 := bR.thaw 0
   have zz1 := bR.thaw 1
   have zz2 := bR.thaw 2
   have zz3 := bR.thaw 3
   have zz4 := bR.thaw 4
   have zz5 := bR.thaw 5
   have zz6 := bR.thaw 6
   have zz7 := bR.thaw 7
   have qR := bR.lt
   have hF : Hid (∀ W, Only C w W -> Drawn W C A cap l -> Only C w W) := hidP (fun _ h _ => h)
   clear hF
   go_wp2
   exact bodyPost_ret (v := .agg (Qad 0 0 1 a b c2 k t)) (by simp [results, Tryz.results82, go_sem, rr0, rr1, rr2, rr3, rr4, rr5, rr6, rr7, hRX]) rfl ⟨1, a, b, c2, k, t, rfl, ⟨by omega, by omega, by omega, hc, ⟨hk1, hk2⟩, ⟨ht1, ht2⟩⟩, Qap (Qap (Qap (Qap (Qap (Qap (Qap (Qap (Qap (HO.out) ((Only.refl X _).set 5 (.int .i64 c2)) (by omega)) ((Only.refl w.heap.size _).set 0 (.int .i64 0)) (by omega)) ((Only.refl w.heap.size _).set 1 (.int .i64 0)) (by omega)) ((Only.refl w.heap.size _).set 2 (.int .i64 1)) (by omega)) ((Only.refl w.heap.size _).set 3 (.int .i64 a)) (by omega)) ((Only.refl w.heap.size _).set 4 (.int .i64 b)) (by omega)) ((Only.refl w.heap.size _).set 5 (.int .i64 c2)) (by omega)) ((Only.refl w.heap.size _).set 6 (.string k)) (by omega)) ((Only.refl w.heap.size _).set 7 (.string t)) (by omega), (((((((((HD.out).only ((Only.refl X _).set 5 (.int .i64 c2)) (by omega)).only ((Only.refl w.heap.size _).set 0 (.int .i64 0)) (by omega)).only ((Only.refl w.heap.size _).set 1 (.int .i64 0)) (by omega)).only ((Only.refl w.heap.size _).set 2 (.int .i64 1)) (by omega)).only ((Only.refl w.heap.size _).set 3 (.int .i64 a)) (by omega)).only ((Only.refl w.heap.size _).set 4 (.int .i64 b)) (by omega)).only ((Only.refl w.heap.size _).set 5 (.int .i64 c2)) (by omega)).only ((Only.refl w.heap.size _).set 6 (.string k)) (by omega)).only ((Only.refl w.heap.size _).set 7 (.string t)) (by omega)⟩
 by_cases e8 : op = 8
 . subst e8
   have HI := hidP (Qe3 (w4.alloc (.cells (Qad 0 0 8 a b c ⟨#[]⟩ ⟨#[]⟩) 105)) ([⟨0⟩, ⟨10⟩, ⟨60⟩] : List Nu) (Qcj (0) (10) (60)) 3 rfl)
   rw [World.size_alloc] at HI
   go_wp2_with fail
   refine (Qcy C A cap l (w4.heap.size + 1) 0 3 ([⟨0⟩, ⟨10⟩, ⟨60⟩] : List Nu) (by simp) (by simp) _ (HD.out.below (Qaf (Below.refl _ _) (.cells (Qcj (0) (10) (60)) 3))) (by simp) (by omega) HI.out).mono ?_
   rintro e w5 ⟨y2, hy2, rfl, o_, d_⟩
   have ha : 0 <= y2.n /\ y2.n <= 60 := by
    simp only [List.mem_cons, List.not_mem_nil, or_false] at hy2
    rcases hy2 with rfl | rfl | rfl<;>exact ⟨by decide, by decide⟩
   generalize y2.n = a2 at *
   clear hy2 HI
   have hX : w.heap.size < w4.heap.size := by omega
   generalize w4.heap.size = X at *
   replace bR : Blk w5 w.heap.size 105 Qa5 := (bR.alloc (.cells (Qcj (0) (10) (60)) 3)).only o_ (by omega)
   replace bX : Blk w5 X 105 (Qad 0 0 8 a b c ⟨#[]⟩ ⟨#[]⟩) := (bX.alloc (.cells (Qcj (0) (10) (60)) 3)).only o_ (by omega)
   replace HO := hidP ((HO.out.below (Qaf (Below.refl _ _) (.cells (Qcj (0) (10) (60)) 3))).trans o_)
   replace HD := hidP d_
   clear o_ d_
   have cx0 := bX.cell (i := 0) rfl
   have cx1 := bX.cell (i := 1) rfl
   have cx2 := bX.cell (i := 2) rfl
   have cx3 := bX.cell (i := 3) rfl
   have cx4 := bX.cell (i := 4) rfl
   have cx5 := bX.cell (i := 5) rfl
   have cx6 := bX.cell (i := 6) rfl
   have cx7 := bX.cell (i := 7) rfl
   have fx0 := bX.thaw 0
   have fx1 := bX.thaw 1
   have fx2 := bX.thaw 2
   have fx3 := bX.thaw 3
   have fx4 := bX.thaw 4
   have fx5 := bX.thaw 5
   have fx6 := bX.thaw 6
   have fx7 := bX.thaw 7
   have qX := bX.lt
   have rr0 := bR.cell (i := 0) rfl
   have rr1 := bR.cell (i := 1) rfl
   have rr2 := bR.cell (i := 2) rfl
   have rr3 := bR.cell (i := 3) rfl
   have rr4 := bR.cell (i := 4) rfl
   have rr5 := bR.cell (i := 5) rfl
   have rr6 := bR.cell (i := 6) rfl
   have rr7 := bR.cell (i := 7) rfl
   have zz0 := bR.thaw 0
   have zz1 := bR.thaw 1
   have zz2 := bR.thaw 2
   have zz3 := bR.thaw 3
   have zz4 := bR.thaw 4
   have zz5 := bR.thaw 5
   have zz6 := bR.thaw 6
   have zz7 := bR.thaw 7
   have qR := bR.lt
   have hF : Hid (∀ W, Only C w W -> Drawn W C A cap l -> Only C w W) := hidP (fun _ h _ => h)
   clear hF
   go_wp2
   exact bodyPost_ret (v := .agg (Qad 0 0 8 a2 b c ⟨#[]⟩ ⟨#[]⟩)) (by simp [results, Tryz.results82, go_sem, rr0, rr1, rr2, rr3, rr4, rr5, rr6, rr7, hRX]) rfl ⟨8, a2, b, c, ⟨#[]⟩, ⟨#[]⟩, rfl, ⟨by omega, ha, by omega, by omega, tx_nil, tx_nil⟩, Qap (Qap (Qap (Qap (Qap (Qap (Qap (Qap (Qap (HO.out) ((Only.refl X _).set 3 (.int .i64 a2)) (by omega)) ((Only.refl w.heap.size _).set 0 (.int .i64 0)) (by omega)) ((Only.refl w.heap.size _).set 1 (.int .i64 0)) (by omega)) ((Only.refl w.heap.size _).set 2 (.int .i64 8)) (by omega)) ((Only.refl w.heap.size _).set 3 (.int .i64 a2)) (by omega)) ((Only.refl w.heap.size _).set 4 (.int .i64 b)) (by omega)) ((Only.refl w.heap.size _).set 5 (.int .i64 c)) (by omega)) ((Only.refl w.heap.size _).set 6 (.string ⟨#[]⟩)) (by omega)) ((Only.refl w.heap.size _).set 7 (.string ⟨#[]⟩)) (by omega), (((((((((HD.out).only ((Only.refl X _).set 3 (.int .i64 a2)) (by omega)).only ((Only.refl w.heap.size _).set 0 (.int .i64 0)) (by omega)).only ((Only.refl w.heap.size _).set 1 (.int .i64 0)) (by omega)).only ((Only.refl w.heap.size _).set 2 (.int .i64 8)) (by omega)).only ((Only.refl w.heap.size _).set 3 (.int .i64 a2)) (by omega)).only ((Only.refl w.heap.size _).set 4 (.int .i64 b)) (by omega)).only ((Only.refl w.heap.size _).set 5 (.int .i64 c)) (by omega)).only ((Only.refl w.heap.size _).set 6 (.string ⟨#[]⟩)) (by omega)).only ((Only.refl w.heap.size _).set 7 (.string ⟨#[]⟩)) (by omega)⟩
 have cx0 := bX.cell (i := 0) rfl
 have cx1 := bX.cell (i := 1) rfl
 have cx2 := bX.cell (i := 2) rfl
 have cx3 := bX.cell (i := 3) rfl
 have cx4 := bX.cell (i := 4) rfl
 have cx5 := bX.cell (i := 5) rfl
 have cx6 := bX.cell (i := 6) rfl
 have cx7 := bX.cell (i := 7) rfl
 have fx0 := bX.thaw 0
 have fx1 := bX.thaw 1
 have fx2 := bX.thaw 2
 have fx3 := bX.thaw 3
 have fx4 := bX.thaw 4
 have fx5 := bX.thaw 5
 have fx6 := bX.thaw 6
 have fx7 := bX.thaw 7
 have qX := bX.lt
 have rr0 := bR.cell (i := 0) rfl
 have rr1 := bR.cell (i := 1) rfl
 have rr2 := bR.cell (i := 2) rfl
 have rr3 := bR.cell (i := 3) rfl
 have rr4 := bR.cell (i := 4) rfl
 have rr5 := bR.cell (i := 5) rfl
 have rr6 := bR.cell (i := 6) rfl
 have rr7 := bR.cell (i := 7) rfl
 have zz0 := bR.thaw 0
 have zz1 := bR.thaw 1
 have zz2 := bR.thaw 2
 have zz3 := bR.thaw 3
 have zz4 := bR.thaw 4
 have zz5 := bR.thaw 5
 have zz6 := bR.thaw 6
 have zz7 := bR.thaw 7
 have qR := bR.lt
 have hF : Hid (∀ W, Only C w W -> Drawn W C A cap l -> Only C w W) := hidP (fun _ h _ => h)
 clear hF
 go_wp2
 exact bodyPost_ret (v := .agg (Qad 0 0 op a b c ⟨#[]⟩ ⟨#[]⟩)) (by simp [results, Tryz.results82, go_sem, rr0, rr1, rr2, rr3, rr4, rr5, rr6, rr7, hRX]) rfl ⟨op, a, b, c, ⟨#[]⟩, ⟨#[]⟩, rfl, ⟨h1, by omega, by omega, by omega, tx_nil, tx_nil⟩, Qap (Qap (Qap (Qap (Qap (Qap (Qap (Qap (HO.out) ((Only.refl w.heap.size _).set 0 (.int .i64 0)) (by omega)) ((Only.refl w.heap.size _).set 1 (.int .i64 0)) (by omega)) ((Only.refl w.heap.size _).set 2 (.int .i64 op)) (by omega)) ((Only.refl w.heap.size _).set 3 (.int .i64 a)) (by omega)) ((Only.refl w.heap.size _).set 4 (.int .i64 b)) (by omega)) ((Only.refl w.heap.size _).set 5 (.int .i64 c)) (by omega)) ((Only.refl w.heap.size _).set 6 (.string ⟨#[]⟩)) (by omega)) ((Only.refl w.heap.size _).set 7 (.string ⟨#[]⟩)) (by omega), ((((((((HD.out).only ((Only.refl w.heap.size _).set 0 (.int .i64 0)) (by omega)).only ((Only.refl w.heap.size _).set 1 (.int .i64 0)) (by omega)).only ((Only.refl w.heap.size _).set 2 (.int .i64 op)) (by omega)).only ((Only.refl w.heap.size _).set 3 (.int .i64 a)) (by omega)).only ((Only.refl w.heap.size _).set 4 (.int .i64 b)) (by omega)).only ((Only.refl w.heap.size _).set 5 (.int .i64 c)) (by omega)).only ((Only.refl w.heap.size _).set 6 (.string ⟨#[]⟩)) (by omega)).only ((Only.refl w.heap.size _).set 7 (.string ⟨#[]⟩)) (by omega)⟩
def Dc (who seq op a b c : Int) (k t : ByteArray) : Prop := (who = -1 /\ seq = 0 /\ op = 0 /\ a = 0 /\ b = 0 /\ c = 0 /\ k = ⟨#[]⟩ /\ t = ⟨#[]⟩) ∨ (0 <= who /\ who <= 3 /\ 1 <= seq /\ seq <= 6 /\ Bd op a b c k t)
theorem Dc.size {who seq op a b c : Int} {k t : ByteArray} (h : Dc who seq op a b c k t) : k.size <= 30 /\ t.size <= 30 := by
 rcases h with ⟨_, _, _, _, _, _, rfl, rfl⟩ | ⟨_, _, _, _, h⟩
 . exact ⟨by decide, by decide⟩
 . exact ⟨h.k.le, h.t.le⟩
theorem Qen (C : Nat) (A : Option Addr) (cap : Nat) (l : List By) (w : World) (hD : Drawn w C A cap l) :
 Calls Tryz.prog 69 #[.pointer (some ⟨C, 0, none⟩)] w fun e w' => ∃ (who seq op a b c : Int) (k t : ByteArray), e = .returned (.agg (Qad who seq op a b c k t)) /\ Dc who seq op a b c k t /\ Only C w w' /\ Drawn w' C A cap l := by
 have hC := hD.lt
 have HD0 := hidP hD
 clear hD
 have bR := Blk.new w 105 Qa5
 have HO := hidP (Only.of_below (c := C) (Qaf (Below.refl _ w) (.cells Qa5 105)))
 have HD := hidP (HD0.out.below (Qaf (Below.refl _ w) (.cells Qa5 105)))
 clear HD0
 go_enter Tryz.func69, Tryz.ntmps69
 go_wp2_with fail
 refine (once_any C A cap l 10 (by omega) (by omega) _ (HD.out)).mono ?_
 rintro e w1 ⟨q, rfl, o_, d_⟩
 replace bR : Blk w1 w.heap.size 105 Qa5 := (bR).only o_ (by omega)
 have q_ := o_.size
 try simp only [World.size_alloc, World.size_setCell] at q_
 replace HO := hidP ((HO.out).trans o_)
 replace HD := hidP d_
 clear o_ d_
 cases q with
 | true =>
  have rr0 := bR.cell (i := 0) rfl
  have rr1 := bR.cell (i := 1) rfl
  have rr2 := bR.cell (i := 2) rfl
  have rr3 := bR.cell (i := 3) rfl
  have rr4 := bR.cell (i := 4) rfl
  have rr5 := bR.cell (i := 5) rfl
  have rr6 := bR.cell (i := 6) rfl
  have rr7 := bR.cell (i := 7) rfl
  have zz0 := bR.thaw 0
  have zz1 := bR.thaw 1
  have zz2 := bR.thaw 2
  have zz3 := bR.thaw 3
  have zz4 := bR.thaw 4
  have zz5 := bR.thaw 5
  have zz6 := bR.thaw 6
  have zz7 := bR.thaw 7
  have qR := bR.lt
  have hF : Hid (∀ W, Only C w W -> Drawn W C A cap l -> Only C w W) := hidP (fun _ h _ => h)
  clear hF
  go_wp2
  exact bodyPost_ret (v := .agg (Qad (-1) 0 0 0 0 0 ⟨#[]⟩ ⟨#[]⟩)) (by simp [results, Tryz.results69, go_sem, rr0, rr1, rr2, rr3, rr4, rr5, rr6, rr7]) rfl ⟨-1, 0, 0, 0, 0, 0, ⟨#[]⟩, ⟨#[]⟩, rfl, .inl ⟨rfl, rfl, rfl, rfl, rfl, rfl, rfl, rfl⟩, Qap (Qap (Qap (Qap (Qap (Qap (Qap (Qap (HO.out) ((Only.refl w.heap.size _).set 0 (.int .i64 (-1))) (by omega)) ((Only.refl w.heap.size _).set 1 (.int .i64 0)) (by omega)) ((Only.refl w.heap.size _).set 2 (.int .i64 0)) (by omega)) ((Only.refl w.heap.size _).set 3 (.int .i64 0)) (by omega)) ((Only.refl w.heap.size _).set 4 (.int .i64 0)) (by omega)) ((Only.refl w.heap.size _).set 5 (.int .i64 0)) (by omega)) ((Only.refl w.heap.size _).set 6 (.string ⟨#[]⟩)) (by omega)) ((Only.refl w.heap.size _).set 7 (.string ⟨#[]⟩)) (by omega), ((((((((HD.out).only ((Only.refl w.heap.size _).set 0 (.int .i64 (-1))) (by omega)).only ((Only.refl w.heap.size _).set 1 (.int .i64 0)) (by omega)).only ((Only.refl w.heap.size _).set 2 (.int .i64 0)) (by omega)).only ((Only.refl w.heap.size _).set 3 (.int .i64 0)) (by omega)).only ((Only.refl w.heap.size _).set 4 (.int .i64 0)) (by omega)).only ((Only.refl w.heap.size _).set 5 (.int .i64 0)) (by omega)).only ((Only.refl w.heap.size _).set 6 (.string ⟨#[]⟩)) (by omega)).only ((Only.refl w.heap.size _).set 7 (.string ⟨#[]⟩)) (by omega)⟩
 | false =>
  go_wp2_with fail
  refine (Qh5 C A cap l _ (HD.out)).mono ?_
  rintro e w2 ⟨op, a, b, c, k, t, rfl, hbd, o_, d_⟩
  replace bR : Blk w2 w.heap.size 105 Qa5 := (bR).only o_ (by omega)
  have q_ := o_.size
  try simp only [World.size_alloc, World.size_setCell] at q_
  replace HO := hidP ((HO.out).trans o_)
  replace HD := hidP d_
  clear o_ d_
  have Hbd := hidP hbd
  clear hbd
  have bX := Blk.new w2 105 (Qad 0 0 op a b c k t)
  replace bR := bR.alloc (.cells (Qad 0 0 op a b c k t) 105)
  replace HO := hidP (HO.out.below (Qaf (Below.refl _ _) (.cells (Qad 0 0 op a b c k t) 105)))
  replace HD := hidP (HD.out.below (Qaf (Below.refl _ _) (.cells (Qad 0 0 op a b c k t) 105)))
  have hRX : w.heap.size ≠ w2.heap.size := by omega
  go_wp2_with fail
  refine (Qa7 C A cap l 4 (by omega) (by omega) _ HD.out).mono ?_
  rintro e w3 ⟨who, rfl, hw0, hw1, o_, d_⟩
  have hX : w.heap.size < w2.heap.size := by omega
  generalize w2.heap.size = X at *
  replace bR : Blk w3 w.heap.size 105 Qa5 := bR.only o_ (by omega)
  replace bX : Blk w3 X 105 (Qad 0 0 op a b c k t) := bX.only o_ (by omega)
  replace HO := hidP (HO.out.trans o_)
  replace HD := hidP d_
  clear o_ d_
  have cx0 := bX.cell (i := 0) rfl
  have cx1 := bX.cell (i := 1) rfl
  have cx2 := bX.cell (i := 2) rfl
  have cx3 := bX.cell (i := 3) rfl
  have cx4 := bX.cell (i := 4) rfl
  have cx5 := bX.cell (i := 5) rfl
  have cx6 := bX.cell (i := 6) rfl
  have cx7 := bX.cell (i := 7) rfl
  have fx0 := bX.thaw 0
  have fx1 := bX.thaw 1
  have fx2 := bX.thaw 2
  have fx3 := bX.thaw 3
  have fx4 := bX.thaw 4
  have fx5 := bX.thaw 5
  have fx6 := bX.thaw 6
  have fx7 := bX.thaw 7
  have qX := bX.lt
  go_wp2_with fail
  refine (Qa7 C A cap l 6 (by omega) (by omega) _ ((HD.out).only ((Only.refl X _).set 0 (.int .i64 who)) (by omega))).mono ?_
  rintro e w4 ⟨sq, rfl, hs0, hs1, o_, d_⟩
  replace bR : Blk w4 w.heap.size 105 Qa5 := ((bR).other (B' := X) (by omega) 0 (.int .i64 who)).only o_ (by omega)
  replace bX : Blk w4 X 105 (Qad who 0 op a b c k t) := ((bX).setAt 0 (.int .i64 who)).only o_ (by omega)
  have q_ := o_.size
  try simp only [World.size_alloc, World.size_setCell] at q_
  replace HO := hidP ((Qap (HO.out) ((Only.refl X _).set 0 (.int .i64 who)) (by omega)).trans o_)
  replace HD := hidP d_
  clear o_ d_
  clear cx0 cx1 cx2 cx3 cx4 cx5 cx6 cx7 fx0 fx1 fx2 fx3 fx4 fx5 fx6 fx7 qX
  have cx0 := bX.cell (i := 0) rfl
  have cx1 := bX.cell (i := 1) rfl
  have cx2 := bX.cell (i := 2) rfl
  have cx3 := bX.cell (i := 3) rfl
  have cx4 := bX.cell (i := 4) rfl
  have cx5 := bX.cell (i := 5) rfl
  have cx6 := bX.cell (i := 6) rfl
  have cx7 := bX.cell (i := 7) rfl
  have fx0 := bX.thaw 0
  have fx1 := bX.thaw 1
  have fx2 := bX.thaw 2
  have fx3 := bX.thaw 3
  have fx4 := bX.thaw 4
  have fx5 := bX.thaw 5
  have fx6 := bX.thaw 6
  have fx7 := bX.thaw 7
  have qX := bX.lt
  obtain ⟨seq, hseq⟩ : ∃ s : Int, s = 1 + sq := ⟨_, rfl⟩
  have hseq1 : 1 <= seq /\ seq <= 6 := by omega
  have rr0 := bR.cell (i := 0) rfl
  have rr1 := bR.cell (i := 1) rfl
  have rr2 := bR.cell (i := 2) rfl
  have rr3 := bR.cell (i := 3) rfl
  have rr4 := bR.cell (i := 4) rfl
  have rr5 := bR.cell (i := 5) rfl
  have rr6 := bR.cell (i := 6) rfl
  have rr7 := bR.cell (i := 7) rfl
  have zz0 := bR.thaw 0
  have zz1 := bR.thaw 1
  have zz2 := bR.thaw 2
  have zz3 := bR.thaw 3
  have zz4 := bR.thaw 4
  have zz5 := bR.thaw 5
  have zz6 := bR.thaw 6
  have zz7 := bR.thaw 7
  have qR := bR.lt
  have hF : Hid (∀ W, Only C w W -> Drawn W C A cap l -> Only C w W) := hidP (fun _ h _ => h)
  clear hF
  go_wp2
  exact bodyPost_ret (v := .agg (Qad who (1 + sq) op a b c k t)) (by simp [results, Tryz.results69, go_sem, rr0, rr1, rr2, rr3, rr4, rr5, rr6, rr7, hRX]) rfl ⟨who, 1 + sq, op, a, b, c, k, t, rfl, .inr ⟨by omega, by omega, by omega, by omega, Hbd.out⟩, Qap (Qap (Qap (Qap (Qap (Qap (Qap (Qap (Qap (HO.out) ((Only.refl X _).set 1 (.int .i64 (1 + sq))) (by omega)) ((Only.refl w.heap.size _).set 0 (.int .i64 who)) (by omega)) ((Only.refl w.heap.size _).set 1 (.int .i64 (1 + sq))) (by omega)) ((Only.refl w.heap.size _).set 2 (.int .i64 op)) (by omega)) ((Only.refl w.heap.size _).set 3 (.int .i64 a)) (by omega)) ((Only.refl w.heap.size _).set 4 (.int .i64 b)) (by omega)) ((Only.refl w.heap.size _).set 5 (.int .i64 c)) (by omega)) ((Only.refl w.heap.size _).set 6 (.string k)) (by omega)) ((Only.refl w.heap.size _).set 7 (.string t)) (by omega), (((((((((HD.out).only ((Only.refl X _).set 1 (.int .i64 (1 + sq))) (by omega)).only ((Only.refl w.heap.size _).set 0 (.int .i64 who)) (by omega)).only ((Only.refl w.heap.size _).set 1 (.int .i64 (1 + sq))) (by omega)).only ((Only.refl w.heap.size _).set 2 (.int .i64 op)) (by omega)).only ((Only.refl w.heap.size _).set 3 (.int .i64 a)) (by omega)).only ((Only.refl w.heap.size _).set 4 (.int .i64 b)) (by omega)).only ((Only.refl w.heap.size _).set 5 (.int .i64 c)) (by omega)).only ((Only.refl w.heap.size _).set 6 (.string k)) (by omega)).only ((Only.refl w.heap.size _).set 7 (.string t)) (by omega)⟩
end Go.Proofs.YtlniljigeemnoaaGreat.Gen
