/-
  The program's drive: made of a disk, put to, made sure. No condition but that there are at most 1048576 bytes.
-/
import Derived.Test.YtlniljigeemnoaaGreatDrawDB
import Derived.Test.YtlniljigeemnoaaGreatLks
set_option linter.unusedVariables false
set_option linter.unusedSimpArgs false
set_option maxRecDepth 100000
set_option maxHeartbeats 8000000
namespace Go.Proofs.YtlniljigeemnoaaGreat.Gen
open ChangeShapes WideShapes ChangeAt RowKit Joins Deep Base MuLone
theorem Blk.row5d {W : World} {B : Nat} {t : TypeId} {a b c d e : Value} (h : Blk W B t #[a, b, c, d, e]) : W.cell? ⟨B, 0, none⟩ = some a /\ W.cell? ⟨B, 1, none⟩ = some b /\ W.cell? ⟨B, 2, none⟩ = some c /\ W.cell? ⟨B, 3, none⟩ = some d /\ W.cell? ⟨B, 4, none⟩ = some e := ⟨h.cell (by rfl), h.cell (by rfl), h.cell (by rfl), h.cell (by rfl), h.cell (by rfl)⟩
theorem load64_any (d : Nat) (n : Int) (w : World) (h : w.cell? ⟨d, 4, none⟩ = some (.int .i64 n)) :
 Calls Tryz.prog 37 #[.pointer (some ⟨d, 4, none⟩)] w fun e w' => e = .returned (.int .i64 n) /\ w' = w := by
 have hl := run_call_load (P := Tryz.prog) Tryz.func45 (by kernel_rfl) (by kernel_rfl) (by kernel_rfl) .i64 (by kernel_rfl) h
 go_enter Tryz.func37, Tryz.ntmps37
 go_wp2
 go_ret
 exact ⟨rfl, rfl⟩
theorem add64_any (d : Nat) (w : World) (h : w.cell? ⟨d, 4, none⟩ = some (.int .i64 0)) (hz : w.frozen? ⟨d, 4, none⟩ = false) :
 Calls Tryz.prog 36 #[.pointer (some ⟨d, 4, none⟩), .int .i64 1] w fun e w' => e = .returned (.int .i64 1) /\ w' = w.setCell ⟨d, 4, none⟩ (.int .i64 1) := by
 have hl := run_call_add (P := Tryz.prog) Tryz.func44 (by kernel_rfl) (by kernel_rfl) (by kernel_rfl) .i64 (by kernel_rfl) (y := 1) (s := 1) h hz (by simp [go_sem]; rfl)
 go_enter Tryz.func36, Tryz.ntmps36
 go_wp2
 go_ret
 exact ⟨rfl, rfl⟩
theorem copied_any (su : Int) (A : Option Addr) (cap : Nat) (l : List UInt8) (hl : l.length <= 3000000) (w : World) (hA : At w A l) :
 Calls Tryz.prog 32 #[.agg #[.slice A l.length cap, .int .i64 su]] w fun e w' => ∃ a c, e = .returned (.agg #[.slice a l.length c, .int .i64 su]) /\ w'.ownsRow w.heap.size 5 1 (.slice a l.length c) l.length (flat l) /\ Below w.heap.size w w' := by
 have HA := hidP hA
 clear hA
 have B0 : Below w.heap.size w ((w.alloc (.cells #[.slice A l.length cap, .int .i64 su] 25)).alloc (.cells #[.slice none 0 0, .int .i64 0] 25)) := Qaf (Qaf (Below.refl _ _) _) _
 have p := (Blk.new w 25 #[.slice A l.length cap, .int .i64 su]).alloc (.cells #[.slice none 0 0, .int .i64 0] 25)
 have r := Blk.new (w.alloc (.cells #[.slice A l.length cap, .int .i64 su] 25)) 25 #[.slice none 0 0, .int .i64 0]
 rw [World.size_alloc] at r
 have zr : w.heap.size + 1 < ((w.alloc (.cells #[.slice A l.length cap, .int .i64 su] 25)).alloc (.cells #[.slice none 0 0, .int .i64 0] 25)).heap.size := r.lt
 obtain ⟨v1, w1, hr1, own1, gr1, at1⟩ := Qbr ((w.alloc (.cells #[.slice A l.length cap, .int .i64 su] 25)).alloc (.cells #[.slice none 0 0, .int .i64 0] 25)).heap.size (.slice none 0 0) [] l A cap ((w.alloc (.cells #[.slice A l.length cap, .int .i64 su] 25)).alloc (.cells #[.slice none 0 0, .int .i64 0] 25)) (Nat.le_refl _) (World.ownsRow_nil _ _ _ _) (HA.out.below B0) (by simp; omega)
 simp only [List.length_nil, Nat.zero_add, List.nil_append] at own1
 obtain ⟨a1, c1, rfl, _⟩ := Qao own1
 have B1 : Below w.heap.size w w1 := B0.grown gr1 B0.size (fun k e => by cases e)
 have p1 := p.kept gr1 (by intro h; cases h)
 have r1 := r.kept gr1 (by intro h; cases h)
 have z0 := B0.size
 have far : ∀ C, C < ((w.alloc (.cells #[.slice A l.length cap, .int .i64 su] 25)).alloc (.cells #[.slice none 0 0, .int .i64 0] 25)).heap.size -> some C ≠ (Value.slice a1 l.length c1).ownBlock := fun C hC => Qay own1 hC
 have R := (((r1.other (B' := w.heap.size) (by omega) 0 (.slice a1 l.length c1)).setAt 0 (.slice a1 l.length c1)).setAt 1 (.int .i64 su))
 have P1 : Blk _ w.heap.size 25 #[.slice a1 l.length c1, .int .i64 su] := p1.setAt 0 (.slice a1 l.length c1)
 obtain ⟨e0, e1⟩ := Blk.row2 R
 obtain ⟨u0, u1⟩ := p.row2
 obtain ⟨k0, k1⟩ := p1.row2
 obtain ⟨m0, m1⟩ := P1.row2
 obtain ⟨y0, y1⟩ := r1.row2
 have f0 := p1.thaw 0
 have f1 := r1.thaw 0
 have f2 := r1.thaw 1
 have O1 := hidP own1
 have Far := hidP far
 clear R P1 own1 gr1 at1 far
 go_enter Tryz.func32, Tryz.ntmps32
 go_wp2_with (at_builtin; refine Qae rfl _ _ _ rfl _ _ _ rfl rfl hr1 ?_)
 exact bodyPost_ret (v := .agg #[.slice a1 l.length c1, .int .i64 su]) (by simp [results, Tryz.results32, go_sem, e0, e1]) rfl
  ⟨_, _, rfl, Qaw (Qaj (Qaj (Qaj O1.out (Far.out _ (by omega))) (Far.out _ zr)) (Far.out _ zr)) z0, Qal (Qal (Qal B1 (by omega) _) (by omega) _) (by omega) _⟩
theorem Qd5 (su : Int) (A : Option Addr) (cap : Nat) (l : List UInt8) (hl : l.length <= 3000000) (w : World) (hA : At w A l) :
 Calls Tryz.prog 20 #[.agg #[.slice A l.length cap, .int .i64 su]] w fun e w' => ∃ d a c, e = .returned (.pointer (some ⟨d, 0, none⟩)) /\ Blk w' d 65 #[.int .i32 0, .int .u32 0, .slice a l.length c, .int .i64 su, .int .i64 0] /\ w'.ownsRow w.heap.size 5 1 (.slice a l.length c) l.length (flat l) /\ w.heap.size <= d /\ some d ≠ (Value.slice a l.length c).ownBlock /\ Below w.heap.size w w' := by
 have HA := hidP hA
 clear hA
 go_enter Tryz.func20, Tryz.ntmps20
 go_wp2_with fail
 refine (copied_any su A cap l hl _ (HA.out.below (Qaf (Below.refl _ _) _))).mono ?_
 rintro e w1 ⟨a, c, rfl, o1, g1⟩
 have B1 : Below w.heap.size w w1 := by repeat (first | exact Below.refl _ _ | assumption | refine via0 (by assumption) ?_ | refine Below.drew ?_ | refine Qaf ?_ _)
 have O1 := hidP o1
 have z := B1.size
 have n : some w1.heap.size ≠ (Value.slice a l.length c).ownBlock := fun e => Nat.lt_irrefl _ (Qbw O1.out e.symm)
 clear o1 g1
 go_wp2
 go_ret
 exact ⟨_, _, _, rfl, Blk.new _ _ _, Qaw (Qav O1.out _) (by simp), z, n, Qaf B1 _⟩
theorem room_any (su : Int) (A : Option Addr) (cap n : Nat) (hn : n <= 3000000) (w : World) :
 Calls Tryz.prog 40 #[.agg #[.slice A n cap, .int .i64 su]] w fun e w' => e = .returned (.int .i64 (80000 - (n : Int))) /\ Below w.heap.size w w' := by
 go_enter Tryz.func40, Tryz.ntmps40
 go_wp2
 go_ret
 exact ⟨rfl, by repeat (first | exact Below.refl _ _ | assumption | refine via0 (by assumption) ?_ | refine Below.drew ?_ | refine Qaf ?_ _)⟩
theorem Qij (su : Int) (A : Option Addr) (cap n : Nat) (hn : n <= 3000000) (h0 : 0 <= su) (h1 : su <= (n : Int)) (w : World) :
 Calls Tryz.prog 35 #[.agg #[.slice A n cap, .int .i64 su]] w fun e w' => e = .returned (.int .i64 ((n : Int) - su)) /\ Below w.heap.size w w' := by
 go_enter Tryz.func35, Tryz.ntmps35
 go_wp2
 go_ret
 exact ⟨rfl, by repeat (first | exact Below.refl _ _ | assumption | refine via0 (by assumption) ?_ | refine Below.drew ?_ | refine Qaf ?_ _)⟩
theorem Qe4 (d : Nat) (w : World) (h : w.cell? ⟨d, 4, none⟩ = some (.int .i64 0)) (hz : w.frozen? ⟨d, 4, none⟩ = false) :
 Calls Tryz.prog 22 #[.pointer (some ⟨d, 0, none⟩)] w fun e w' => e = .returned (.tuple #[]) /\ w' = w.setCell ⟨d, 4, none⟩ (.int .i64 1) := by
 go_enter Tryz.func22, Tryz.ntmps22
 go_wp2_with fail
 refine (add64_any d w h hz).mono ?_
 rintro e w' ⟨rfl, rfl⟩
 go_wp2
 go_end0
 exact ⟨rfl, rfl⟩
theorem Sl.set1 {C i : Nat} {F : List Nat} {W : World} {a : Option Addr} {u : Value} {l : List UInt8} (h : Sl W a l F) (hC : C ∉ F) : Sl (W.setCell ⟨C, i, none⟩ u) a l F :=
 h.off (Off.of_only ((Only.refl C W).set i u)) (fun x hx hm => by simp at hm; subst hm; exact hC hx)
def ToldP (w0 : World) (d : Nat) (su n : Int) (l b : List UInt8) (fit : Bool) (w' : World) : Prop := ∃ a' c' L, L = (if fit then l ++ b else l) /\ Below w0.heap.size w0 w' /\
      Blk w' d 65 #[.int .i32 0, .int .u32 0, .slice a' L.length c', .int .i64 su, .int .i64 n] /\ w'.ownsRow w0.heap.size 5 1 (.slice a' L.length c') L.length (flat L) /\ some d ≠ (Value.slice a' L.length c').ownBlock
theorem put_any (w0 : World) (d : Nat) (a : Option Addr) (c : Nat) (su n : Int) (l b : List UInt8) (A2 : Option Addr) (cap2 : Nat) (hl : l.length <= 1048576) (hb : b.length <= 1048576) (w : World) (hw : Below w0.heap.size w0 w) (hd : w0.heap.size <= d)
 (h : Blk w d 65 #[.int .i32 0, .int .u32 0, .slice a l.length c, .int .i64 su, .int .i64 n]) (ho : w.ownsRow w0.heap.size 5 1 (.slice a l.length c) l.length (flat l)) (hn : some d ≠ (Value.slice a l.length c).ownBlock) (hA2 : At w0 A2 b) :
 Calls Tryz.prog 28 #[.pointer (some ⟨d, 0, none⟩), .slice A2 b.length cap2] w fun e w' => e = .returned (.bool (decide (l.length + b.length <= 80000))) /\ ToldP w0 d su n l b (decide (l.length + b.length <= 80000)) w' := by
 have HA2 := hidP hA2
 clear hA2
 obtain ⟨fit, hfit⟩ : ∃ fit, fit = decide (l.length + b.length <= 80000) := ⟨_, rfl⟩
 rw [← hfit]
 have HF := hidP hfit
 clear hfit
 obtain ⟨h0, -, -, -, -⟩ := h.row5d
 have f0 := h.thaw 0
 have h1 : Blk (w.setCell ⟨d, 0, none⟩ (.int .i32 1)) d 65 #[.int .i32 1, .int .u32 0, .slice a l.length c, .int .i64 su, .int .i64 n] := h.setAt 0 (.int .i32 1)
 have g1 : Below w0.heap.size w0 (w.setCell ⟨d, 0, none⟩ (.int .i32 1)) := Qal hw hd _
 have o1 := hidP (Qaj (i := 0) (u := .int .i32 1) ho hn)
 go_enter_defers Tryz.func28, Tryz.ntmps28
 go_wp2_with fail
 refine (lock_free Qhh ⟨d, 0, none⟩ _ h0 f0).mono ?_
 rintro e w' ⟨rfl, rfl⟩
 generalize w.setCell ⟨d, 0, none⟩ (.int .i32 1) = W1 at h1 g1 o1 ⊢
 clear h0 f0 h ho hw
 obtain ⟨c0, c1, c2, c3, c4⟩ := h1.row5d
 have q1 := h1.lt
 go_wp2_with fail
 refine (room_any su a c l.length (by omega) _).mono ?_
 rintro e w2 ⟨rfl, g2⟩
 have g02 := via0 g2 g1
 have h2 := h1.below g2 h1.lt
 have o2 := hidP (Qaq o1.out g2)
 clear c0 c1 c2 c3 c4 q1 g2 o1 g1 h1
 obtain ⟨c0, c1, c2, c3, c4⟩ := h2.row5d
 have f0 := h2.thaw 0
 have f2 := h2.thaw 2
 have q1 := h2.lt
 have z2 := g02.size
 by_cases hfit : (b.length : Int) > 80000 - (l.length : Int)
 . have eF : fit = false := by rw [HF.out]; exact decide_eq_false (by omega)
   subst eF
   have hU : Blk (w2.setCell ⟨d, 0, none⟩ (.int .i32 0)) d 65 #[.int .i32 0, .int .u32 0, .slice a l.length c, .int .i64 su, .int .i64 n] := h2.setAt 0 (.int .i32 0)
   go_wp2
   refine leaves_cons (f := 34) (args := #[.pointer (some ⟨d, 0, none⟩)]) (by simp) (by simp [go_sem]) ?_
   refine (unlock_deferred Qhh ⟨d, 0, none⟩ .returning _ c0 f0).mono ?_
   rintro e u' w'' ⟨rfl, rfl, rfl⟩
   exact ⟨_, results_tmp rfl _ _ _, rfl, a, c, l, rfl, Qal g02 hd _, hU, Qaj o2.out hn, hn⟩
 . have eF : fit = true := by rw [HF.out]; exact decide_eq_true (by omega)
   subst eF
   obtain ⟨v3, w3, hr3, own3, gr3, at3⟩ := Qbr w0.heap.size (.slice a l.length c) l b A2 cap2 w2 z2 o2.out (HA2.out.below g02) (by omega)
   obtain ⟨a3, c3', rfl, _⟩ := Qao own3
   have g03 : Below w0.heap.size w0 w3 := g02.grown gr3 z2 (fun k e => Nat.le_of_not_lt fun h => Qay o2.out h e.symm)
   have h3 := h2.kept gr3 hn
   have n3 : some d ≠ (Value.slice a3 (l.length + b.length) c3').ownBlock := by
    rcases at3 with e | e
    . rw [e]; exact hn
    . rw [e]; intro h; have := Option.some.inj h; omega
   have h4 : Blk (w3.setCell ⟨d, 2, none⟩ (.slice a3 (l.length + b.length) c3')) d 65 #[.int .i32 1, .int .u32 0, .slice a3 (l.length + b.length) c3', .int .i64 su, .int .i64 n] := h3.setAt 2 _
   have h5 : Blk ((w3.setCell ⟨d, 2, none⟩ (.slice a3 (l.length + b.length) c3')).setCell ⟨d, 0, none⟩ (.int .i32 0)) d 65 #[.int .i32 0, .int .u32 0, .slice a3 (l.length + b.length) c3', .int .i64 su, .int .i64 n] := h4.setAt 0 _
   obtain ⟨m0, m1, m2, m3, m4⟩ := h3.row5d
   obtain ⟨y0, -, -, -, -⟩ := h4.row5d
   have k2 := h3.thaw 2
   have k0 := h4.thaw 0
   have O3 := hidP own3
   have N3 := hidP n3
   have H5 := hidP h5
   have e1 : (l ++ b).length = l.length + b.length := List.length_append
   have HE := hidP e1
   clear own3 n3 at3 gr3 h4 h5 e1
   go_wp2_with (at_builtin; refine Qae rfl _ _ _ rfl _ _ _ rfl rfl hr3 ?_)
   refine leaves_cons (f := 34) (args := #[.pointer (some ⟨d, 0, none⟩)]) (by simp) (by simp [go_sem]) ?_
   refine (unlock_deferred Qhh ⟨d, 0, none⟩ .returning _ y0 k0).mono ?_
   rintro e u' w'' ⟨rfl, rfl, rfl⟩
   refine ⟨_, results_tmp rfl _ _ _, rfl, a3, c3', l ++ b, rfl, Qal (Qal g03 hd _) hd _, ?_⟩
   rw [HE.out]
   exact ⟨H5.out, Qaj (Qaj O3.out N3.out) N3.out, N3.out⟩
theorem Qdm (w0 : World) (d : Nat) (a : Option Addr) (c : Nat) (su n : Int) (l : List UInt8) (F : List Nat) (hl : l.length <= 3000000) (hc : l.length <= c /\ c <= maxLen) (w : World) (hw : Below w0.heap.size w0 w) (hd : w0.heap.size <= d)
 (h : Blk w d 65 #[.int .i32 0, .int .u32 0, .slice a l.length c, .int .i64 su, .int .i64 n]) (hs : Sl w a l F) (hF : ∀ x ∈ F, w0.heap.size <= x) (hn : d ∉ F) :
 Calls Tryz.prog 23 #[.pointer (some ⟨d, 0, none⟩)] w fun e w' => e = .returned (.agg #[.slice a l.length c, .int .i64 (if 0 < n then (l.length : Int) else su)]) /\ Below w0.heap.size w0 w' /\ NewB w0.heap.size w' (.slice a l.length c) l := by
 have hz := hw.size
 have lt := hs.lt
 obtain ⟨z, hz0⟩ : ∃ z, z = w.heap.size := ⟨_, rfl⟩
 have r : Blk (w.alloc (.cells #[.slice none 0 0, .int .i64 0] 25)) z 25 #[.slice none 0 0, .int .i64 0] := hz0 ▸ Blk.new w 25 #[.slice none 0 0, .int .i64 0]
 have hr : z ∉ F := fun e => by have := lt _ e; omega
 have hne : d ≠ z := fun e => by have := h.lt; omega
 have hzz : w0.heap.size <= z := by omega
 have h1 := h.alloc (.cells #[.slice none 0 0, .int .i64 0] 25)
 obtain ⟨h0, -, -, -, -⟩ := h1.row5d
 have f0 := h1.thaw 0
 have h2 : Blk ((w.alloc (.cells #[.slice none 0 0, .int .i64 0] 25)).setCell ⟨d, 0, none⟩ (.int .i32 1)) d 65 #[.int .i32 1, .int .u32 0, .slice a l.length c, .int .i64 su, .int .i64 n] := h1.setAt 0 (.int .i32 1)
 have r2 := r.other (B' := d) (fun e => hne e.symm) 0 (.int .i32 1)
 have g2 : Below w0.heap.size w0 ((w.alloc (.cells #[.slice none 0 0, .int .i64 0] 25)).setCell ⟨d, 0, none⟩ (.int .i32 1)) := Qal (hw.alloc hz _) hd _
 have s2 : Sl ((w.alloc (.cells #[.slice none 0 0, .int .i64 0] 25)).setCell ⟨d, 0, none⟩ (.int .i32 1)) a l F := (hs.below (Qaf (Below.refl _ _) _)).off (Off.of_only ((Only.refl d _).set 0 (.int .i32 1))) (fun x hx e => by simp at e; subst e; exact hn hx)
 have HF := hidP hF
 clear hs lt hF
 go_enter_defers Tryz.func23, Tryz.ntmps23
 go_wp2_with fail
 refine (lock_free Qhh ⟨d, 0, none⟩ _ h0 f0).mono ?_
 rintro e w' ⟨rfl, rfl⟩
 rw [← hz0]
 generalize (w.alloc (.cells #[.slice none 0 0, .int .i64 0] 25)).setCell ⟨d, 0, none⟩ (.int .i32 1) = W2 at h2 r2 g2 s2 ⊢
 have S2 := hidP s2
 clear h0 f0 h1 h r hw s2 hz0 hz
 obtain ⟨c0, c1, c2, c3, c4⟩ := h2.row5d
 obtain ⟨r0, r1⟩ := r2.row2
 have q2 := h2.lt
 have q3 := r2.lt
 have k0 := r2.thaw 0
 have k1 := r2.thaw 1
 have k3 := h2.thaw 3
 have k4 := h2.thaw 0
 have hne' : ¬ z = d := fun e => hne e.symm
 go_wp2_with fail
 refine (load64_any d n W2 c4).mono ?_
 rintro e w' ⟨rfl, rfl⟩
 by_cases hn0 : 0 < n
 . have R := ((r2.other (B' := d) hne' 3 (.int .i64 (l.length : Int))).setAt 0 (.slice a l.length c)).setAt 1 (.int .i64 (l.length : Int))
   have R1 := R.other (B' := d) hne' 0 (.int .i32 0)
   have D3 : Blk (w'.setCell ⟨d, 3, none⟩ (.int .i64 (l.length : Int))) d 65 #[.int .i32 1, .int .u32 0, .slice a l.length c, .int .i64 (l.length : Int), .int .i64 n] := h2.setAt 3 _
   have D4 := (D3.other (B' := z) hne 0 (.slice a l.length c)).other (B' := z) hne 1 (.int .i64 (l.length : Int))
   obtain ⟨x0, x1⟩ := Blk.row2 R1
   obtain ⟨y0, -, -, -, -⟩ := D4.row5d
   obtain ⟨-, -, y2, y3, -⟩ := D3.row5d
   have t0 := D4.thaw 0
   clear R R1 D3 D4
   go_wp2
   refine leaves_cons (f := 34) (args := #[.pointer (some ⟨d, 0, none⟩)]) (by simp) (by simp [go_sem]) ?_
   refine (unlock_deferred Qhh ⟨d, 0, none⟩ .returning _ y0 t0).mono ?_
   rintro e u' w'' ⟨rfl, rfl, rfl⟩
   refine ⟨.agg #[.slice a l.length c, .int .i64 (l.length : Int)], ?_, rfl, ?_, ?_⟩
   . simp only [results, Tryz.results23]
     simp [go_sem, x0, x1]
   . exact Qal (Qal (Qal (Qal g2 hd _) hzz _) hzz _) hd _
   . exact ⟨a, c, F, rfl, hc.1, hc.2, Sl.set1 (Sl.set1 (Sl.set1 (Sl.set1 S2.out hn) hr) hr) hn, HF.out⟩
 . have R := (r2.setAt 0 (.slice a l.length c)).setAt 1 (.int .i64 su)
   have R1 := R.other (B' := d) hne' 0 (.int .i32 0)
   have D4 := (h2.other (B' := z) hne 0 (.slice a l.length c)).other (B' := z) hne 1 (.int .i64 su)
   obtain ⟨x0, x1⟩ := Blk.row2 R1
   obtain ⟨y0, -, -, -, -⟩ := D4.row5d
   have t0 := D4.thaw 0
   clear R R1 D4
   go_wp2
   refine leaves_cons (f := 34) (args := #[.pointer (some ⟨d, 0, none⟩)]) (by simp) (by simp [go_sem]) ?_
   refine (unlock_deferred Qhh ⟨d, 0, none⟩ .returning _ y0 t0).mono ?_
   rintro e u' w'' ⟨rfl, rfl, rfl⟩
   refine ⟨.agg #[.slice a l.length c, .int .i64 su], ?_, rfl, ?_, ?_⟩
   . simp only [results, Tryz.results23]
     simp [go_sem, x0, x1]
   . exact Qal (Qal (Qal g2 hzz _) hzz _) hd _
   . exact ⟨a, c, F, rfl, hc.1, hc.2, Sl.set1 (Sl.set1 (Sl.set1 S2.out hr) hr) hn, HF.out⟩
def ToldT (w0 : World) (d : Nat) (su n : Int) (a : Option Addr) (l : List UInt8) (F : List Nat) (fn : Nat) (w' : World) : Prop := Below w0.heap.size w0 w' /\
      Blk w' d 65 #[.int .i32 0, .int .u32 0, .slice a fn fn, .int .i64 su, .int .i64 n] /\ Sl w' a l F
theorem tear_any (w0 : World) (d : Nat) (a : Option Addr) (c : Nat) (su n keep : Int) (l : List UInt8) (F : List Nat) (hb : Qbl su l.length = true) (hc : l.length <= c /\ c <= maxLen) (w : World) (hw : Below w0.heap.size w0 w) (hd : w0.heap.size <= d)
 (h : Blk w d 65 #[.int .i32 0, .int .u32 0, .slice a l.length c, .int .i64 su, .int .i64 n]) (hs : Sl w a l F) (hF : ∀ x ∈ F, w0.heap.size <= x) (hn : d ∉ F) :
 Calls Tryz.prog 21 #[.pointer (some ⟨d, 0, none⟩), .int .i64 keep] w fun e w' => e = .returned (.tuple #[]) /\ ToldT w0 d su n a l F (Qcr su l.length keep) w' := by
 obtain ⟨hl, b0, b1⟩ := Qdj hb
 obtain ⟨hc1, hc2⟩ := hc
 obtain ⟨y0, y1, y2, y3⟩ := Qfg hb keep
 have hZ : Hid (Qdx su l.length keep = max 0 (min keep ((l.length : Int) - su))) := rfl
 generalize Qcr su l.length keep = fn at y2 y3 ⊢
 generalize Qdx su l.length keep = fz at y0 y1 y2 hZ
 obtain ⟨h0, -, -, -, -⟩ := h.row5d
 have f0 := h.thaw 0
 have h2 : Blk (w.setCell ⟨d, 0, none⟩ (.int .i32 1)) d 65 #[.int .i32 1, .int .u32 0, .slice a l.length c, .int .i64 su, .int .i64 n] := h.setAt 0 (.int .i32 1)
 have g2 : Below w0.heap.size w0 (w.setCell ⟨d, 0, none⟩ (.int .i32 1)) := Qal hw hd _
 have s2 : Sl (w.setCell ⟨d, 0, none⟩ (.int .i32 1)) a l F := Sl.set1 hs hn
 have HF := hidP hF
 clear hs hF
 go_enter_defers Tryz.func21, Tryz.ntmps21
 go_wp2_with fail
 refine (lock_free Qhh ⟨d, 0, none⟩ _ h0 f0).mono ?_
 rintro e w' ⟨rfl, rfl⟩
 generalize w.setCell ⟨d, 0, none⟩ (.int .i32 1) = W2 at h2 g2 s2 ⊢
 have S2 := hidP s2
 clear h0 f0 h hw s2
 obtain ⟨c0, c1, c2, c3, c4⟩ := h2.row5d
 have q2 := h2.lt
 obtain ⟨mx, hmx⟩ : ∃ mx : Int, (if 0 > keep then 0 else keep) = mx := ⟨_, rfl⟩
 have hmn : (if (l.length : Int) - su < mx then (l.length : Int) - su else mx) = fz := by rw [hZ.out]; split at hmx<;>split<;>omega
 have hmx' : (if keep < 0 then 0 else keep) = mx := hmx
 have hw2 : IntKind.i64.wrap (su + fz) = (fn : Int) := by rw [IntKind.wrap_i64]; omega
 clear hmx
 go_wp2_with fail
 go_region_held3 (fun w' => w'.cell? ⟨d, 2, none⟩ = some (.slice a l.length c) /\ w'.cell? ⟨d, 3, none⟩ = some (.int .i64 su))
  (first | (go_split_ands; refine ⟨?_, ?_⟩<;>first | assumption | exact (k1 _ _ (by assumption)).trans (by assumption)) | go_keep)
  (first
   | (go_at_call 35; refine (Qij su a c l.length (by omega) b0 b1 _).mono ?_; rintro e w3 ⟨rfl, g3⟩; obtain ⟨k1, m1⟩ := Qfa g3))
 all_goals
  rw [← y2]
  have g23 : Below W2.heap.size W2 w3 := by repeat (first | exact Below.refl _ _ | assumption | refine via0 (by assumption) ?_ | refine Below.drew ?_ | refine Qaf ?_ _)
  have g03 := via0 g23 g2
  have h3 := h2.below g23 h2.lt
  have S3 := hidP (S2.out.below g23)
  go_split_ands
  clear g3 k1 m1 g23 c0 c1 c2 c3 c4 hw2 hmn hmx' y2
  have h4 : Blk (w3.setCell ⟨d, 2, none⟩ (.slice a fn fn)) d 65 #[.int .i32 1, .int .u32 0, .slice a fn fn, .int .i64 su, .int .i64 n] := h3.setAt 2 _
  have h5 : Blk ((w3.setCell ⟨d, 2, none⟩ (.slice a fn fn)).setCell ⟨d, 0, none⟩ (.int .i32 0)) d 65 #[.int .i32 0, .int .u32 0, .slice a fn fn, .int .i64 su, .int .i64 n] := h4.setAt 0 _
  obtain ⟨c0, c1, c2, c3, c4⟩ := h3.row5d
  have k2 := h3.thaw 2
  obtain ⟨x0, -, -, -, -⟩ := h4.row5d
  have k0 := h4.thaw 0
  have H5 := hidP h5
  have hcut : ∀ W : World, (Instr.slice 22 (.slice a l.length c) none (some (.int .i64 (fn : Int))) (some (.int .i64 (fn : Int)))).run Tryz.prog W = .ok (.slice a fn fn) W := fun W => cut_end8 a l.length c fn (by omega) hc2 W
  clear h5 h4
  go_wp2
  refine leaves_cons (f := 34) (args := #[.pointer (some ⟨d, 0, none⟩)]) (by simp) (by simp [go_sem]) ?_
  refine (unlock_deferred Qhh ⟨d, 0, none⟩ .returning _ x0 k0).mono ?_
  rintro e u' w'' ⟨rfl, rfl, rfl⟩
  exact ⟨_, results_none rfl _ _ _, rfl, Qal (Qal g03 hd _) hd _, H5.out, Sl.set1 (Sl.set1 S3.out hn) hn⟩
theorem Qeb {B : Nat} {w : World} {a : Option Addr} {c : Nat} {L : List UInt8} {t : TypeId} (h : w.ownsRow B t 1 (.slice a L.length c) L.length (flat L)) : ∃ F, Sl w a L F /\ (∀ x ∈ F, B <= x) /\ (L.length <= c /\ c <= maxLen) /\ ∀ d, some d ≠ (Value.slice a L.length c).ownBlock -> d ∉ F := by
 rcases h.2 with ⟨e, h0⟩ | ⟨g, c', cur, e, hB, hg, hc, hm, hsz, ht⟩
 . have : L = [] := List.length_eq_zero_iff.1 h0
   subst this
   cases e
   exact ⟨[], .inl ⟨rfl, rfl⟩, by simp, ⟨by simp, by simp [maxLen]⟩, by simp⟩
 . have hf := Qem (α := UInt8) (t := t) hg hB hc hsz ht
   cases e
   by_cases h0 : L = []
   . exact ⟨[], .inl ⟨h0, rfl⟩, by simp, ⟨hc, hm⟩, by simp⟩
   . obtain ⟨A', c2, e2, _, h1⟩ := hf
     cases e2
     obtain ⟨b, o, e3, hB', hb, hi, hth⟩ := h1.resolve_left h0
     cases e3
     exact ⟨[g], .inr ⟨g, 0, rfl, rfl, hb, hi, hth⟩, by simpa using hB', ⟨hc, hm⟩, fun d hd hm => by simp at hm; subst hm; exact hd rfl⟩
theorem Sl.take8 {F : List Nat} {w : World} {a : Option Addr} {l : List UInt8} (h : Sl w a l F) (n : Nat) : ∃ F', Sl w a (l.take n) F' /\ ∀ x ∈ F', x ∈ F := by
 rcases h with ⟨rfl, rfl⟩ | ⟨b, o, rfl, rfl, hb, hi, ht⟩
 . exact ⟨[], .inl ⟨by simp, rfl⟩, by simp⟩
 . refine ⟨[b], .inr ⟨b, o, rfl, rfl, hb, hi.take8 n, fun j hj => ht j ?_⟩, by simp⟩
   have : (l.take n).length <= l.length := by rw [List.length_take]; omega
   exact Nat.lt_of_lt_of_le hj (Nat.mul_le_mul_right _ this)
theorem Qe5 (su : Int) (A : Option Addr) (cap : Nat) (l : List UInt8) (hl : l.length <= 1048576) (w : World) (hA : At w A l) :
 Calls Tryz.prog 12 #[.agg #[.slice A l.length cap, .int .i64 su]] w fun e w' => ∃ v, e = .returned (.agg #[v, .int .i64 (Qeu su l.length)]) /\ NewB w.heap.size w' v l /\ Below w.heap.size w w' := by
 have HA := hidP hA
 have HD : Hid (∀ W : World, Calls Tryz.prog 15 #[.agg #[.slice A l.length cap, .int .i64 su]] W fun e w' => e = .returned (.bool (Qbl su l.length)) /\ Below W.heap.size W w') := fun W => Qb1 su A l.length cap (by omega) W
 clear hA
 have hS : Hid (Qeu su l.length = if Qbl su l.length then (l.length : Int) else su) := rfl
 generalize Qeu su l.length = fs at hS ⊢
 generalize Qbl su l.length = bb at HD hS
 have B0 : Below w.heap.size w ((w.alloc (.cells #[.slice A l.length cap, .int .i64 su] 25)).alloc (.cells #[.slice none 0 0, .int .i64 0] 25)) := Qaf (Qaf (Below.refl _ _) _) _
 have p := (Blk.new w 25 #[.slice A l.length cap, .int .i64 su]).alloc (.cells #[.slice none 0 0, .int .i64 0] 25)
 have r := Blk.new (w.alloc (.cells #[.slice A l.length cap, .int .i64 su] 25)) 25 #[.slice none 0 0, .int .i64 0]
 rw [World.size_alloc] at r
 go_enter Tryz.func12, Tryz.ntmps12
 go_wp2_with fail
 generalize (w.alloc (.cells #[.slice A l.length cap, .int .i64 su] 25)).alloc (.cells #[.slice none 0 0, .int .i64 0] 25) = W0 at p r B0 ⊢
 have zr := r.lt
 have rW := r
 have z0 := B0.size
 refine (Qd5 su A cap l (by omega) _ (HA.out.below B0)).mono ?_
 rintro e w1 ⟨d, a, c, rfl, v1, o1, hd, n1, g1⟩
 have B1 := hidP g1
 replace p := p.below g1 p.lt
 replace r := r.below g1 r.lt
 have O1 := hidP o1
 clear o1 g1
 obtain ⟨u0, u1⟩ := p.row2
 go_wp2_with fail
 refine (HD.out _).mono ?_
 rintro e w2 ⟨rfl, g2⟩
 have B2 : Hid (Below W0.heap.size W0 w2) := via0 g2 B1.out
 replace p := p.below g2 p.lt
 replace r := r.below g2 r.lt
 have v2 := v1.below g2 v1.lt
 obtain ⟨F, s2, hF, hc, hnF⟩ := Qeb (Qaq O1.out g2)
 have dF := hnF d n1
 have S2 := hidP s2
 have HF := hidP hF
 clear u0 u1 g2 v1 O1 hnF s2 hF B1
 cases bb
 . have eS : fs = su := hS.out
   subst eS
   go_wp2_with fail
   refine (Qdm W0 d a c fs 0 l F (by omega) hc w2 B2.out hd v2 S2.out HF.out dF).mono ?_
   rintro e w4 ⟨rfl, g4, n4⟩
   have r4 := rW.below g4 zr
   have R := (r4.setAt 0 (.slice a l.length c)).setAt 1 (.int .i64 fs)
   obtain ⟨e0, e1⟩ := Blk.row2 R
   obtain ⟨x0, x1⟩ := r4.row2
   have f0 := r4.thaw 0
   have f1 := r4.thaw 1
   have N4 := hidP n4
   have B4 : Hid (Below w.heap.size w w4) := B0.trans (g4.mono z0)
   clear R n4 g4
   go_wp2
   exact bodyPost_ret (v := .agg #[.slice a l.length c, .int .i64 fs]) (by simp [results, Tryz.results12, go_sem, e0, e1]) rfl
    ⟨_, rfl, Qbo (Qa8 (Qa8 N4.out zr) zr) z0, Qal (Qal B4.out (by omega) _) (by omega) _⟩
 . have eS : fs = (l.length : Int) := hS.out
   subst eS
   obtain ⟨-, -, -, -, c4⟩ := v2.row5d
   have k4 := v2.thaw 4
   have v3 : Blk (w2.setCell ⟨d, 4, none⟩ (.int .i64 1)) d 65 #[.int .i32 0, .int .u32 0, .slice a l.length c, .int .i64 su, .int .i64 1] := v2.setAt 4 _
   have s3 := hidP (Sl.set1 (i := 4) (u := .int .i64 1) S2.out dF)
   have b3 := hidP (Qal (i := 4) B2.out hd (.int .i64 1))
   go_wp2_with fail
   refine (Qe4 d w2 c4 k4).mono ?_
   rintro e w3 ⟨rfl, rfl⟩
   generalize w2.setCell ⟨d, 4, none⟩ (.int .i64 1) = w3 at v3 s3 b3 ⊢
   clear c4 k4
   go_wp2_with fail
   refine (Qdm W0 d a c su 1 l F (by omega) hc w3 b3.out hd v3 s3.out HF.out dF).mono ?_
   rintro e w4 ⟨rfl, g4, n4⟩
   have r4 := rW.below g4 zr
   have R := (r4.setAt 0 (.slice a l.length c)).setAt 1 (.int .i64 (l.length : Int))
   obtain ⟨e0, e1⟩ := Blk.row2 R
   obtain ⟨x0, x1⟩ := r4.row2
   have f0 := r4.thaw 0
   have f1 := r4.thaw 1
   have N4 := hidP n4
   have B4 : Hid (Below w.heap.size w w4) := B0.trans (g4.mono z0)
   clear R n4 g4
   go_wp2
   exact bodyPost_ret (v := .agg #[.slice a l.length c, .int .i64 (l.length : Int)]) (by simp [results, Tryz.results12, go_sem, e0, e1]) rfl
    ⟨_, rfl, Qbo (Qa8 (Qa8 N4.out zr) zr) z0, Qal (Qal B4.out (by omega) _) (by omega) _⟩
theorem Qdi (su keep : Int) (A : Option Addr) (cap : Nat) (l : List UInt8) (hl : l.length <= 1048576) (w : World) (hA : At w A l) :
 Calls Tryz.prog 6 #[.agg #[.slice A l.length cap, .int .i64 su], .int .i64 keep] w fun e w' => ∃ v, e = .returned (.agg #[v, .int .i64 (Qgu su l.length keep)]) /\ NewB w.heap.size w' v (Qdy su l keep) /\ Below w.heap.size w w' := by
 have HA := hidP hA
 have HD : Hid (∀ W : World, Calls Tryz.prog 15 #[.agg #[.slice A l.length cap, .int .i64 su]] W fun e w' => e = .returned (.bool (Qbl su l.length)) /\ Below W.heap.size W w') := fun W => Qb1 su A l.length cap (by omega) W
 clear hA
 have hS : Hid (Qgu su l.length keep = if Qbl su l.length then (Qcr su l.length keep : Int) else su) := rfl
 have hL : Hid (Qdy su l keep = if Qbl su l.length then l.take (Qcr su l.length keep) else l) := rfl
 have hT : Hid (Qbl su l.length = true -> Qbl su l.length = true /\ Qcr su l.length keep <= l.length) := fun h => ⟨h, (Qfg h keep).2.2.2⟩
 have HT : Hid (∀ (w0 : World) (d : Nat) (a : Option Addr) (c : Nat) (F : List Nat) (w : World), Qbl su l.length = true -> (l.length <= c /\ c <= maxLen) -> Below w0.heap.size w0 w -> w0.heap.size <= d -> Blk w d 65 #[.int .i32 0, .int .u32 0, .slice a l.length c, .int .i64 su, .int .i64 0] -> Sl w a l F -> (∀ x ∈ F, w0.heap.size <= x) -> d ∉ F ->
  Calls Tryz.prog 21 #[.pointer (some ⟨d, 0, none⟩), .int .i64 keep] w fun e w' => e = .returned (.tuple #[]) /\ ToldT w0 d su 0 a l F (Qcr su l.length keep) w') := fun w0 d a c F w h1 h2 h3 h4 h5 h6 h7 h8 => tear_any w0 d a c su 0 keep l F h1 h2 w h3 h4 h5 h6 h7 h8
 generalize Qgu su l.length keep = fs at hS ⊢
 generalize Qdy su l keep = L at hL ⊢
 generalize Qcr su l.length keep = fn at hS hL hT HT
 generalize Qbl su l.length = bb at HD hS hL hT HT
 have B0 : Below w.heap.size w ((w.alloc (.cells #[.slice A l.length cap, .int .i64 su] 25)).alloc (.cells #[.slice none 0 0, .int .i64 0] 25)) := Qaf (Qaf (Below.refl _ _) _) _
 have p := (Blk.new w 25 #[.slice A l.length cap, .int .i64 su]).alloc (.cells #[.slice none 0 0, .int .i64 0] 25)
 have r := Blk.new (w.alloc (.cells #[.slice A l.length cap, .int .i64 su] 25)) 25 #[.slice none 0 0, .int .i64 0]
 rw [World.size_alloc] at r
 go_enter Tryz.func6, Tryz.ntmps6
 go_wp2_with fail
 generalize (w.alloc (.cells #[.slice A l.length cap, .int .i64 su] 25)).alloc (.cells #[.slice none 0 0, .int .i64 0] 25) = W0 at p r B0 ⊢
 have zr := r.lt
 have rW := r
 have z0 := B0.size
 refine (Qd5 su A cap l (by omega) _ (HA.out.below B0)).mono ?_
 rintro e w1 ⟨d, a, c, rfl, v1, o1, hd, n1, g1⟩
 have B1 := hidP g1
 replace p := p.below g1 p.lt
 replace r := r.below g1 r.lt
 have O1 := hidP o1
 clear o1 g1
 obtain ⟨u0, u1⟩ := p.row2
 go_wp2_with fail
 refine (HD.out _).mono ?_
 rintro e w2 ⟨rfl, g2⟩
 have B2 : Hid (Below W0.heap.size W0 w2) := via0 g2 B1.out
 replace p := p.below g2 p.lt
 replace r := r.below g2 r.lt
 have v2 := v1.below g2 v1.lt
 obtain ⟨F, s2, hF, hc, hnF⟩ := Qeb (Qaq O1.out g2)
 have dF := hnF d n1
 have S2 := hidP s2
 have HF := hidP hF
 clear u0 u1 g2 v1 O1 hnF s2 hF B1
 cases bb
 . have eS : fs = su := hS.out
   have eL : L = l := hL.out
   subst eS eL
   go_wp2_with fail
   refine (Qdm W0 d a c fs 0 L F (by omega) hc w2 B2.out hd v2 S2.out HF.out dF).mono ?_
   rintro e w4 ⟨rfl, g4, n4⟩
   have r4 := rW.below g4 zr
   have R := (r4.setAt 0 (.slice a L.length c)).setAt 1 (.int .i64 fs)
   obtain ⟨e0, e1⟩ := Blk.row2 R
   obtain ⟨x0, x1⟩ := r4.row2
   have f0 := r4.thaw 0
   have f1 := r4.thaw 1
   have N4 := hidP n4
   have B4 : Hid (Below w.heap.size w w4) := B0.trans (g4.mono z0)
   clear R n4 g4
   go_wp2
   exact bodyPost_ret (v := .agg #[.slice a L.length c, .int .i64 fs]) (by simp [results, Tryz.results6, go_sem, e0, e1]) rfl
    ⟨_, rfl, Qbo (Qa8 (Qa8 N4.out zr) zr) z0, Qal (Qal B4.out (by omega) _) (by omega) _⟩
 . have eS : fs = (fn : Int) := hS.out
   have eL := hidP hL.out
   have hfn := (hT.out rfl).2
   have et : (l.take fn).length = fn := by rw [List.length_take]; omega
   have ET := hidP et
   subst eS
   go_wp2_with fail
   refine (HT.out W0 d a c F w2 trivial hc B2.out hd v2 S2.out HF.out dF).mono ?_
   rintro e w3 ⟨rfl, g3, v3, s3⟩
   have b3 := hidP g3
   have S3 := hidP s3
   clear g3 s3 et
   obtain ⟨-, -, -, -, c4⟩ := v3.row5d
   have k4 := v3.thaw 4
   have v4 : Blk (w3.setCell ⟨d, 4, none⟩ (.int .i64 1)) d 65 #[.int .i32 0, .int .u32 0, .slice a fn fn, .int .i64 su, .int .i64 1] := v3.setAt 4 _
   have s4 := hidP (Sl.set1 (i := 4) (u := .int .i64 1) S3.out dF)
   have b4 := hidP (Qal (i := 4) b3.out hd (.int .i64 1))
   go_wp2_with fail
   refine (Qe4 d w3 c4 k4).mono ?_
   rintro e w' ⟨rfl, rfl⟩
   generalize w3.setCell ⟨d, 4, none⟩ (.int .i64 1) = w5 at v4 s4 b4 ⊢
   clear c4 k4
   obtain ⟨F', s5, hsub⟩ := Sl.take8 s4.out fn
   have TT := Qdm W0 d a fn su 1 (l.take fn) F' (by rw [ET.out]; omega) (by rw [ET.out]; exact ⟨Nat.le_refl _, by have := hc.2; omega⟩) w5 b4.out hd (by rw [ET.out]; exact v4) s5 (fun x hx => HF.out x (hsub x hx)) (fun h => dF (hsub d h))
   rw [ET.out] at TT
   have HTT := hidP TT
   clear TT
   go_wp2_with fail
   refine HTT.out.mono ?_
   rintro e w4 ⟨rfl, g4, n4⟩
   have r4 := rW.below g4 zr
   have R := (r4.setAt 0 (.slice a fn fn)).setAt 1 (.int .i64 (fn : Int))
   obtain ⟨e0, e1⟩ := Blk.row2 R
   obtain ⟨x0, x1⟩ := r4.row2
   have f0 := r4.thaw 0
   have f1 := r4.thaw 1
   have N4 := hidP n4
   have B4 : Hid (Below w.heap.size w w4) := B0.trans (g4.mono z0)
   clear R n4 g4
   go_wp2
   exact bodyPost_ret (v := .agg #[.slice a fn fn, .int .i64 (fn : Int)]) (by simp [results, Tryz.results6, go_sem, e0, e1]) rfl
    ⟨_, rfl, by rw [eL.out]; exact Qbo (Qa8 (Qa8 N4.out zr) zr) z0, Qal (Qal B4.out (by omega) _) (by omega) _⟩
theorem Qf5 (su : Int) (A A2 : Option Addr) (cap cap2 : Nat) (l b : List UInt8) (hl : l.length <= 1048576) (hb : b.length <= 1048576) (w : World) (hA : At w A l) (hA2 : At w A2 b) :
 Calls Tryz.prog 9 #[.agg #[.slice A l.length cap, .int .i64 su], .slice A2 b.length cap2] w fun e w' => ∃ v, e = .returned (.tuple #[.agg #[v, .int .i64 su], .bool (okA su l.length b.length)]) /\ NewB w.heap.size w' v (appL su l b) /\ Below w.heap.size w w' := by
 have HA := hidP hA
 have HA2 := hidP hA2
 clear hA2
 have HD : Hid (∀ W : World, Calls Tryz.prog 15 #[.agg #[.slice A l.length cap, .int .i64 su]] W fun e w' => e = .returned (.bool (Qbl su l.length)) /\ Below W.heap.size W w') := fun W => Qb1 su A l.length cap (by omega) W
 clear hA
 have hok : Hid (okA su l.length b.length = (Qbl su l.length && decide (l.length + b.length <= 80000))) := rfl
 have hL : Hid (appL su l b = if okA su l.length b.length then l ++ b else l) := rfl
 have HP : Hid (∀ (w0 : World) (d : Nat) (a : Option Addr) (c : Nat) (w : World), Below w0.heap.size w0 w -> w0.heap.size <= d -> Blk w d 65 #[.int .i32 0, .int .u32 0, .slice a l.length c, .int .i64 su, .int .i64 0] -> w.ownsRow w0.heap.size 5 1 (.slice a l.length c) l.length (flat l) -> some d ≠ (Value.slice a l.length c).ownBlock -> At w0 A2 b ->
  Calls Tryz.prog 28 #[.pointer (some ⟨d, 0, none⟩), .slice A2 b.length cap2] w fun e w' => e = .returned (.bool (decide (l.length + b.length <= 80000))) /\ ToldP w0 d su 0 l b (decide (l.length + b.length <= 80000)) w') := fun w0 d a c w h1 h2 h3 h4 h5 h6 => put_any w0 d a c su 0 l b A2 cap2 hl hb w h1 h2 h3 h4 h5 h6
 generalize decide (l.length + b.length <= 80000) = fit at hok HP
 generalize appL su l b = L at hL ⊢
 generalize okA su l.length b.length = ok at hok hL ⊢
 generalize Qbl su l.length = bb at HD hok
 have B0 : Below w.heap.size w ((w.alloc (.cells #[.slice A l.length cap, .int .i64 su] 25)).alloc (.cells #[.slice none 0 0, .int .i64 0] 25)) := Qaf (Qaf (Below.refl _ _) _) _
 have p := (Blk.new w 25 #[.slice A l.length cap, .int .i64 su]).alloc (.cells #[.slice none 0 0, .int .i64 0] 25)
 have r := Blk.new (w.alloc (.cells #[.slice A l.length cap, .int .i64 su] 25)) 25 #[.slice none 0 0, .int .i64 0]
 rw [World.size_alloc] at r
 go_enter Tryz.func9, Tryz.ntmps9
 go_wp2_with fail
 generalize (w.alloc (.cells #[.slice A l.length cap, .int .i64 su] 25)).alloc (.cells #[.slice none 0 0, .int .i64 0] 25) = W0 at p r B0 ⊢
 have zr := r.lt
 have rW := r
 have z0 := B0.size
 refine (Qd5 su A cap l (by omega) _ (HA.out.below B0)).mono ?_
 rintro e w1 ⟨d, a, c, rfl, v1, o1, hd, n1, g1⟩
 have B1 := hidP g1
 replace p := p.below g1 p.lt
 replace r := r.below g1 r.lt
 have O1 := hidP o1
 clear o1 g1
 obtain ⟨u0, u1⟩ := p.row2
 go_wp2_with fail
 refine (HD.out _).mono ?_
 rintro e w2 ⟨rfl, g2⟩
 have B2 : Hid (Below W0.heap.size W0 w2) := via0 g2 B1.out
 replace p := p.below g2 p.lt
 replace r := r.below g2 r.lt
 have v2 := v1.below g2 v1.lt
 obtain ⟨F, s2, hF, hc, hnF⟩ := Qeb (Qaq O1.out g2)
 have dF := hnF d n1
 have O2 := hidP (Qaq O1.out g2)
 have S2 := hidP s2
 have HF := hidP hF
 clear u0 u1 g2 v1 O1 hnF s2 hF B1
 cases bb
 . have eok : ok = false := by rw [hok.out]; rfl
   have eL : L = l := by rw [hL.out, eok]; rfl
   subst eok eL
   go_wp2_with fail
   refine (Qdm W0 d a c su 0 L F (by omega) hc w2 B2.out hd v2 S2.out HF.out dF).mono ?_
   rintro e w4 ⟨rfl, g4, n4⟩
   have r4 := rW.below g4 zr
   have R := (r4.setAt 0 (.slice a L.length c)).setAt 1 (.int .i64 su)
   obtain ⟨e0, e1⟩ := Blk.row2 R
   obtain ⟨x0, x1⟩ := r4.row2
   have f0 := r4.thaw 0
   have f1 := r4.thaw 1
   have N4 := hidP n4
   have B4 : Hid (Below w.heap.size w w4) := B0.trans (g4.mono z0)
   clear R n4 g4
   go_wp2
   exact bodyPost_ret (v := .tuple #[.agg #[.slice a L.length c, .int .i64 su], .bool false]) (by simp [results, Tryz.results9, go_sem, e0, e1]) rfl
    ⟨_, rfl, Qbo (Qa8 (Qa8 N4.out zr) zr) z0, Qal (Qal B4.out (by omega) _) (by omega) _⟩
 . have eok : ok = fit := by rw [hok.out]; rfl
   subst eok
   go_wp2_with fail
   refine (HP.out W0 d a c w2 B2.out hd v2 O2.out n1 (HA2.out.below B0)).mono ?_
   rintro e w3 ⟨rfl, a3, c3, L3, eL3, g3, v3, o3, n3⟩
   have eL : L = L3 := by rw [hL.out, eL3]
   have hL3 : L3.length <= 3000000 := by rw [eL3]; split<;>(try rw [List.length_append])<;>omega
   subst eL
   obtain ⟨F3, s3, hF3, hc3, hnF3⟩ := Qeb o3
   have dF3 := hnF3 d n3
   have HT3 := hidP (Qdm W0 d a3 c3 su 0 L F3 hL3 hc3 w3 g3 hd v3 s3 hF3 dF3)
   clear eL3 g3 v3 o3 n3 s3 hF3 hc3 hnF3 dF3 hL3
   go_wp2_with fail
   refine HT3.out.mono ?_
   rintro e w4 ⟨rfl, g4, n4⟩
   have r4 := rW.below g4 zr
   have R := (r4.setAt 0 (.slice a3 L.length c3)).setAt 1 (.int .i64 su)
   obtain ⟨e0, e1⟩ := Blk.row2 R
   obtain ⟨x0, x1⟩ := r4.row2
   have f0 := r4.thaw 0
   have f1 := r4.thaw 1
   have N4 := hidP n4
   have B4 : Hid (Below w.heap.size w w4) := B0.trans (g4.mono z0)
   clear R n4 g4
   go_wp2
   exact bodyPost_ret (v := .tuple #[.agg #[.slice a3 L.length c3, .int .i64 su], .bool ok]) (by simp [results, Tryz.results9, go_sem, e0, e1]) rfl
    ⟨_, rfl, Qbo (Qa8 (Qa8 N4.out zr) zr) z0, Qal (Qal B4.out (by omega) _) (by omega) _⟩
end Go.Proofs.YtlniljigeemnoaaGreat.Gen
