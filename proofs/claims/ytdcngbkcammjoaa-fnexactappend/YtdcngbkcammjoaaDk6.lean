/-
  The program's drive behind its lock: put to, torn, told. No condition but that there are at most 1048576 bytes.
-/
import Derived.Test.YtdcngbkcammjoaaDk5
import Derived.Defers
namespace Go.Proofs.Ytdcngbkcammjoaa.Gen
open Go.ChangeShapes Go.WideShapes Go.ChangeAt Go.RowKit Go.Joins Go.Deep Base Go.MuLone
set_option linter.unusedVariables false
set_option linter.unusedSimpArgs false

theorem bl_at {n : Nat} {a b : World} (h : Below n a b) {B i : Nat} (hn : n ≤ B) (v : Value) : Below n a (b.setCell ⟨B, i, none⟩ v) := bl_set h hn v

theorem Sl.set1 {C i : Nat} {F : List Nat} {W : World} {a : Option Addr} {u : Value} {l : List UInt8} (h : Sl W a l F) (hC : C ∉ F) : Sl (W.setCell ⟨C, i, none⟩ u) a l F :=
  h.off (Off.of_only ((Only.refl C W).set i u)) (fun x hx hm => by simp at hm; subst hm; exact hC hx)
/-- What put leaves. -/
def ToldP (w0 : World) (d : Nat) (su n : Int) (l b : List UInt8) (fit : Bool) (w' : World) : Prop := ∃ a' c' L, L = (if fit then l ++ b else l) ∧ Below w0.heap.size w0 w' ∧
      Blk w' d 62 #[.int .i32 0, .int .u32 0, .slice a' L.length c', .int .i64 su, .int .i64 n] ∧ w'.ownsRow w0.heap.size 5 1 (.slice a' L.length c') L.length (flat L) ∧ some d ≠ (Value.slice a' L.length c').ownBlock

set_option maxRecDepth 100000 in
set_option maxHeartbeats 2000000 in
theorem put_any (w0 : World) (d : Nat) (a : Option Addr) (c : Nat) (su n : Int) (l b : List UInt8) (A2 : Option Addr) (cap2 : Nat) (hl : l.length ≤ 1048576) (hb : b.length ≤ 1048576) (w : World) (hw : Below w0.heap.size w0 w) (hd : w0.heap.size ≤ d)
    (h : Blk w d 62 #[.int .i32 0, .int .u32 0, .slice a l.length c, .int .i64 su, .int .i64 n]) (ho : w.ownsRow w0.heap.size 5 1 (.slice a l.length c) l.length (flat l)) (hn : some d ≠ (Value.slice a l.length c).ownBlock) (hA2 : At w0 A2 b) :
    Calls Try.prog 28 #[.pointer (some ⟨d, 0, none⟩), .slice A2 b.length cap2] w fun e w' => e = .returned (.bool (decide (l.length + b.length ≤ 80000))) ∧ ToldP w0 d su n l b (decide (l.length + b.length ≤ 80000)) w' := by
  have HA2 := hidP hA2
  clear hA2
  obtain ⟨fit, hfit⟩ : ∃ fit, fit = decide (l.length + b.length ≤ 80000) := ⟨_, rfl⟩
  rw [← hfit]
  have HF := hidP hfit
  clear hfit
  obtain ⟨h0, -, -, -, -⟩ := h.row5d
  have f0 := h.thaw 0
  have h1 : Blk (w.setCell ⟨d, 0, none⟩ (.int .i32 1)) d 62 #[.int .i32 1, .int .u32 0, .slice a l.length c, .int .i64 su, .int .i64 n] := h.setAt 0 (.int .i32 1)
  have g1 : Below w0.heap.size w0 (w.setCell ⟨d, 0, none⟩ (.int .i32 1)) := bl_set hw hd _
  have o1 := hidP (owns_set (i := 0) (u := .int .i32 1) ho hn)
  go_enter_defers Try.func28, Try.ntmps28
  go_wp2_with fail
  refine (lock_free muLib ⟨d, 0, none⟩ _ h0 f0).mono ?_
  rintro e w' ⟨rfl, rfl⟩
  generalize w.setCell ⟨d, 0, none⟩ (.int .i32 1) = W1 at h1 g1 o1 ⊢
  clear h0 f0 h ho hw
  obtain ⟨c0, c1, c2, c3, c4⟩ := h1.row5d
  have q1 := h1.lt
  go_wp2_with fail
  refine (room_any su a c l.length (by omega) _).mono ?_
  rintro e w2 ⟨rfl, g2⟩
  have g02 := via0 g2 g1
  have h2 := h1.below g2 h1.lt
  have o2 := hidP (owns_below o1.out g2)
  clear c0 c1 c2 c3 c4 q1 g2 o1 g1 h1
  obtain ⟨c0, c1, c2, c3, c4⟩ := h2.row5d
  have f0 := h2.thaw 0
  have f2 := h2.thaw 2
  have q1 := h2.lt
  have z2 := g02.size
  by_cases hfit : (b.length : Int) > 80000 - (l.length : Int)
  · have eF : fit = false := by rw [HF.out]; exact decide_eq_false (by omega)
    subst eF
    have hU : Blk (w2.setCell ⟨d, 0, none⟩ (.int .i32 0)) d 62 #[.int .i32 0, .int .u32 0, .slice a l.length c, .int .i64 su, .int .i64 n] := h2.setAt 0 (.int .i32 0)
    go_wp2
    refine leaves_cons (f := 37) (args := #[.pointer (some ⟨d, 0, none⟩)]) (by simp) (by simp [go_sem]) ?_
    refine (unlock_deferred muLib ⟨d, 0, none⟩ .returning _ c0 f0).mono ?_
    rintro e u' w'' ⟨rfl, rfl, rfl⟩
    exact ⟨_, results_tmp rfl _ _ _, rfl, a, c, l, rfl, bl_set g02 hd _, hU, owns_set o2.out hn, hn⟩
  · have eF : fit = true := by rw [HF.out]; exact decide_eq_true (by omega)
    subst eF
    obtain ⟨v3, w3, hr3, own3, gr3, at3⟩ := append_els8 w0.heap.size (.slice a l.length c) l b A2 cap2 w2 z2 o2.out (HA2.out.below g02) (by omega)
    obtain ⟨a3, c3', rfl, _⟩ := owns_form own3
    have g03 : Below w0.heap.size w0 w3 := g02.grown gr3 z2 (fun k e => Nat.le_of_not_lt fun h => owns_far o2.out h e.symm)
    have h3 := h2.kept gr3 hn
    have n3 : some d ≠ (Value.slice a3 (l.length + b.length) c3').ownBlock := by
      rcases at3 with e | e
      · rw [e]; exact hn
      · rw [e]; intro h; have := Option.some.inj h; omega
    have h4 : Blk (w3.setCell ⟨d, 2, none⟩ (.slice a3 (l.length + b.length) c3')) d 62 #[.int .i32 1, .int .u32 0, .slice a3 (l.length + b.length) c3', .int .i64 su, .int .i64 n] := h3.setAt 2 _
    have h5 : Blk ((w3.setCell ⟨d, 2, none⟩ (.slice a3 (l.length + b.length) c3')).setCell ⟨d, 0, none⟩ (.int .i32 0)) d 62 #[.int .i32 0, .int .u32 0, .slice a3 (l.length + b.length) c3', .int .i64 su, .int .i64 n] := h4.setAt 0 _
    obtain ⟨m0, m1, m2, m3, m4⟩ := h3.row5d
    obtain ⟨y0, -, -, -, -⟩ := h4.row5d
    have k2 := h3.thaw 2
    have k0 := h4.thaw 0
    have O3 := hidP own3
    have N3 := hidP n3
    have H5 := hidP h5
    have e1 : (l ++ b).length = l.length + b.length := List.length_append
    have HE := hidP e1
    clear own3 n3 at3 gr3 h4 h5 e1
    go_wp2_with (at_builtin; refine wpList_append_is rfl _ _ _ rfl _ _ _ rfl rfl hr3 ?_)
    refine leaves_cons (f := 37) (args := #[.pointer (some ⟨d, 0, none⟩)]) (by simp) (by simp [go_sem]) ?_
    refine (unlock_deferred muLib ⟨d, 0, none⟩ .returning _ y0 k0).mono ?_
    rintro e u' w'' ⟨rfl, rfl, rfl⟩
    refine ⟨_, results_tmp rfl _ _ _, rfl, a3, c3', l ++ b, rfl, bl_set (bl_set g03 hd _) hd _, ?_⟩
    rw [HE.out]
    exact ⟨H5.out, owns_set (owns_set O3.out N3.out) N3.out, N3.out⟩

set_option maxRecDepth 100000 in
set_option maxHeartbeats 2000000 in
/-- What is told of a drive, and where it lies. -/
theorem told_any (w0 : World) (d : Nat) (a : Option Addr) (c : Nat) (su n : Int) (l : List UInt8) (F : List Nat) (hl : l.length ≤ 3000000) (hc : l.length ≤ c ∧ c ≤ maxLen) (w : World) (hw : Below w0.heap.size w0 w) (hd : w0.heap.size ≤ d)
    (h : Blk w d 62 #[.int .i32 0, .int .u32 0, .slice a l.length c, .int .i64 su, .int .i64 n]) (hs : Sl w a l F) (hF : ∀ x ∈ F, w0.heap.size ≤ x) (hn : d ∉ F) :
    Calls Try.prog 29 #[.pointer (some ⟨d, 0, none⟩)] w fun e w' => e = .returned (.agg #[.slice a l.length c, .int .i64 (if 0 < n then (l.length : Int) else su)]) ∧ Below w0.heap.size w0 w' ∧ NewB w0.heap.size w' (.slice a l.length c) l := by
  have hz := hw.size
  have lt := hs.lt
  obtain ⟨z, hz0⟩ : ∃ z, z = w.heap.size := ⟨_, rfl⟩
  have r : Blk (w.alloc (.cells #[.slice none 0 0, .int .i64 0] 27)) z 27 #[.slice none 0 0, .int .i64 0] := hz0 ▸ Blk.new w 27 #[.slice none 0 0, .int .i64 0]
  have hr : z ∉ F := fun e => by have := lt _ e; omega
  have hne : d ≠ z := fun e => by have := h.lt; omega
  have hzz : w0.heap.size ≤ z := by omega
  have h1 := h.alloc (.cells #[.slice none 0 0, .int .i64 0] 27)
  obtain ⟨h0, -, -, -, -⟩ := h1.row5d
  have f0 := h1.thaw 0
  have h2 : Blk ((w.alloc (.cells #[.slice none 0 0, .int .i64 0] 27)).setCell ⟨d, 0, none⟩ (.int .i32 1)) d 62 #[.int .i32 1, .int .u32 0, .slice a l.length c, .int .i64 su, .int .i64 n] := h1.setAt 0 (.int .i32 1)
  have r2 := r.other (B' := d) (fun e => hne e.symm) 0 (.int .i32 1)
  have g2 : Below w0.heap.size w0 ((w.alloc (.cells #[.slice none 0 0, .int .i64 0] 27)).setCell ⟨d, 0, none⟩ (.int .i32 1)) := bl_set (hw.alloc hz _) hd _
  have s2 : Sl ((w.alloc (.cells #[.slice none 0 0, .int .i64 0] 27)).setCell ⟨d, 0, none⟩ (.int .i32 1)) a l F := (hs.below (alloc0 (Below.refl _ _) _)).off (Off.of_only ((Only.refl d _).set 0 (.int .i32 1))) (fun x hx e => by simp at e; subst e; exact hn hx)
  have HF := hidP hF
  clear hs lt hF
  go_enter_defers Try.func29, Try.ntmps29
  go_wp2_with fail
  refine (lock_free muLib ⟨d, 0, none⟩ _ h0 f0).mono ?_
  rintro e w' ⟨rfl, rfl⟩
  rw [← hz0]
  generalize (w.alloc (.cells #[.slice none 0 0, .int .i64 0] 27)).setCell ⟨d, 0, none⟩ (.int .i32 1) = W2 at h2 r2 g2 s2 ⊢
  have S2 := hidP s2
  clear h0 f0 h1 h r hw s2 hz0 hz
  obtain ⟨c0, c1, c2, c3, c4⟩ := h2.row5d
  obtain ⟨r0, r1⟩ := r2.row2
  have q2 := h2.lt
  have q3 := r2.lt
  have k0 := r2.thaw 0
  have k1 := r2.thaw 1
  have k3 := h2.thaw 3
  have k4 := h2.thaw 0
  have hne' : ¬ z = d := fun e => hne e.symm
  go_wp2_with fail
  refine (load64_any d n W2 c4).mono ?_
  rintro e w' ⟨rfl, rfl⟩
  by_cases hn0 : 0 < n
  · have R := ((r2.other (B' := d) hne' 3 (.int .i64 (l.length : Int))).setAt 0 (.slice a l.length c)).setAt 1 (.int .i64 (l.length : Int))
    have R1 := R.other (B' := d) hne' 0 (.int .i32 0)
    have D3 : Blk (w'.setCell ⟨d, 3, none⟩ (.int .i64 (l.length : Int))) d 62 #[.int .i32 1, .int .u32 0, .slice a l.length c, .int .i64 (l.length : Int), .int .i64 n] := h2.setAt 3 _
    have D4 := (D3.other (B' := z) hne 0 (.slice a l.length c)).other (B' := z) hne 1 (.int .i64 (l.length : Int))
    obtain ⟨x0, x1⟩ := Blk.row2 R1
    obtain ⟨y0, -, -, -, -⟩ := D4.row5d
    obtain ⟨-, -, y2, y3, -⟩ := D3.row5d
    have t0 := D4.thaw 0
    clear R R1 D3 D4
    go_wp2
    refine leaves_cons (f := 37) (args := #[.pointer (some ⟨d, 0, none⟩)]) (by simp) (by simp [go_sem]) ?_
    refine (unlock_deferred muLib ⟨d, 0, none⟩ .returning _ y0 t0).mono ?_
    rintro e u' w'' ⟨rfl, rfl, rfl⟩
    refine ⟨.agg #[.slice a l.length c, .int .i64 (l.length : Int)], ?_, rfl, ?_, ?_⟩
    · simp only [results, Try.results29]
      simp [go_sem, x0, x1]
    · exact bl_set (bl_set (bl_set (bl_set g2 hd _) hzz _) hzz _) hd _
    · exact ⟨a, c, F, rfl, hc.1, hc.2, Sl.set1 (Sl.set1 (Sl.set1 (Sl.set1 S2.out hn) hr) hr) hn, HF.out⟩
  · have R := (r2.setAt 0 (.slice a l.length c)).setAt 1 (.int .i64 su)
    have R1 := R.other (B' := d) hne' 0 (.int .i32 0)
    have D4 := (h2.other (B' := z) hne 0 (.slice a l.length c)).other (B' := z) hne 1 (.int .i64 su)
    obtain ⟨x0, x1⟩ := Blk.row2 R1
    obtain ⟨y0, -, -, -, -⟩ := D4.row5d
    have t0 := D4.thaw 0
    clear R R1 D4
    go_wp2
    refine leaves_cons (f := 37) (args := #[.pointer (some ⟨d, 0, none⟩)]) (by simp) (by simp [go_sem]) ?_
    refine (unlock_deferred muLib ⟨d, 0, none⟩ .returning _ y0 t0).mono ?_
    rintro e u' w'' ⟨rfl, rfl, rfl⟩
    refine ⟨.agg #[.slice a l.length c, .int .i64 su], ?_, rfl, ?_, ?_⟩
    · simp only [results, Try.results29]
      simp [go_sem, x0, x1]
    · exact bl_set (bl_set (bl_set g2 hzz _) hzz _) hd _
    · exact ⟨a, c, F, rfl, hc.1, hc.2, Sl.set1 (Sl.set1 (Sl.set1 S2.out hr) hr) hn, HF.out⟩
end Go.Proofs.Ytdcngbkcammjoaa.Gen
