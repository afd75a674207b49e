/-
  The program's drive behind its lock: put to, torn, told. No condition but that there are at most 1048576 bytes.
-/
import Derived.Test.YtenhcjkkpnlbeaaGreatDoorDkV
set_option linter.unusedVariables false
set_option linter.unusedSimpArgs false
set_option maxRecDepth 100000
set_option maxHeartbeats 8000000
namespace Go.Proofs.YtenhcjkkpnlbeaaGreatDoor.Gen
open ChangeShapes WideShapes ChangeAt RowKit Joins Deep Base MuLone
theorem Sl.set1 {C i : Nat} {F : List Nat} {W : World} {a : Option Addr} {u : Value} {l : List UInt8} (h : Sl W a l F) (hC : C ∉ F) : Sl (W.setCell ⟨C, i, none⟩ u) a l F :=
 h.off (Off.of_only ((Only.refl C W).set i u)) (fun x hx hm => by simp at hm; subst hm; exact hC hx)
theorem told_any (w0 : World) (d : Nat) (a : Option Addr) (c : Nat) (su n : Int) (l : List UInt8) (F : List Nat) (hl : l.length <= 3000000) (hc : l.length <= c /\ c <= maxLen) (w : World) (hw : Below w0.heap.size w0 w) (hd : w0.heap.size <= d)
 (h : Blk w d 258 #[.int .i32 0, .int .u32 0, .slice a l.length c, .int .i64 su, .int .i64 n]) (hs : Sl w a l F) (hF : ∀ x ∈ F, w0.heap.size <= x) (hn : d ∉ F) :
 Calls Tryz.prog 163 #[.pointer (some ⟨d, 0, none⟩)] w fun e w' => e = .returned (.agg #[.slice a l.length c, .int .i64 (if 0 < n then (l.length : Int) else su)]) /\ Below w0.heap.size w0 w' /\ NewB w0.heap.size w' (.slice a l.length c) l := by
 have hz := hw.size
 have lt := hs.lt
 obtain ⟨z, hz0⟩ : ∃ z, z = w.heap.size := ⟨_, rfl⟩
 have r : Blk (w.alloc (.cells #[.slice none 0 0, .int .i64 0] 54)) z 54 #[.slice none 0 0, .int .i64 0] := hz0 ▸ Blk.new w 54 #[.slice none 0 0, .int .i64 0]
 have hr : z ∉ F := fun e => by have := lt _ e; omega
 have hne : d ≠ z := fun e => by have := h.lt; omega
 have hzz : w0.heap.size <= z := by omega
 have h1 := h.alloc (.cells #[.slice none 0 0, .int .i64 0] 54)
 obtain ⟨h0, -, -, -, -⟩ := h1.row5d
 have f0 := h1.thaw 0
 have h2 : Blk ((w.alloc (.cells #[.slice none 0 0, .int .i64 0] 54)).setCell ⟨d, 0, none⟩ (.int .i32 1)) d 258 #[.int .i32 1, .int .u32 0, .slice a l.length c, .int .i64 su, .int .i64 n] := h1.setAt 0 (.int .i32 1)
 have r2 := r.other (B' := d) (fun e => hne e.symm) 0 (.int .i32 1)
 have g2 : Below w0.heap.size w0 ((w.alloc (.cells #[.slice none 0 0, .int .i64 0] 54)).setCell ⟨d, 0, none⟩ (.int .i32 1)) := Qa7 (hw.alloc hz _) hd _
 have s2 : Sl ((w.alloc (.cells #[.slice none 0 0, .int .i64 0] 54)).setCell ⟨d, 0, none⟩ (.int .i32 1)) a l F := (hs.below (Qab (Below.refl _ _) _)).off (Off.of_only ((Only.refl d _).set 0 (.int .i32 1))) (fun x hx e => by simp at e; subst e; exact hn hx)
 have HF := hidP hF
 clear hs lt hF
 go_enter_defers Tryz.func163, Tryz.ntmps163
 go_wp2_with fail
 refine (lock_free muLib ⟨d, 0, none⟩ _ h0 f0).mono ?_
 rintro e w' ⟨rfl, rfl⟩
 rw [← hz0]
 generalize (w.alloc (.cells #[.slice none 0 0, .int .i64 0] 54)).setCell ⟨d, 0, none⟩ (.int .i32 1) = W2 at h2 r2 g2 s2 ⊢
 have S2 := hidP s2
 clear h0 f0 h1 h r hw s2 hz0 hz
 obtain ⟨c0, c1, c2, c3, c4⟩ := h2.row5d
 obtain ⟨r0, r1⟩ := r2.row2
 have q2 := h2.lt
 have q3 := r2.lt
 have k0 := r2.thaw 0
 have k1 := r2.thaw 1
 have k3 := h2.thaw 3
 have k4 := h2.thaw 0
 have hne' : ¬ z = d := fun e => hne e.symm
 go_wp2_with fail
 refine (load64_any d n W2 c4).mono ?_
 rintro e w' ⟨rfl, rfl⟩
 by_cases hn0 : 0 < n
 . have R := ((r2.other (B' := d) hne' 3 (.int .i64 (l.length : Int))).setAt 0 (.slice a l.length c)).setAt 1 (.int .i64 (l.length : Int))
   have R1 := R.other (B' := d) hne' 0 (.int .i32 0)
   have D3 : Blk (w'.setCell ⟨d, 3, none⟩ (.int .i64 (l.length : Int))) d 258 #[.int .i32 1, .int .u32 0, .slice a l.length c, .int .i64 (l.length : Int), .int .i64 n] := h2.setAt 3 _
   have D4 := (D3.other (B' := z) hne 0 (.slice a l.length c)).other (B' := z) hne 1 (.int .i64 (l.length : Int))
   obtain ⟨x0, x1⟩ := Blk.row2 R1
   obtain ⟨y0, -, -, -, -⟩ := D4.row5d
   obtain ⟨-, -, y2, y3, -⟩ := D3.row5d
   have t0 := D4.thaw 0
   clear R R1 D3 D4
   go_wp2
   refine leaves_cons (f := 194) (args := #[.pointer (some ⟨d, 0, none⟩)]) (by simp) (by simp [go_sem]) ?_
   refine (unlock_deferred muLib ⟨d, 0, none⟩ .returning _ y0 t0).mono ?_
   rintro e u' w'' ⟨rfl, rfl, rfl⟩
   refine ⟨.agg #[.slice a l.length c, .int .i64 (l.length : Int)], ?_, rfl, ?_, ?_⟩
   . simp only [results, Tryz.results163]
     simp [go_sem, x0, x1]
   . exact Qa7 (Qa7 (Qa7 (Qa7 g2 hd _) hzz _) hzz _) hd _
   . exact ⟨a, c, F, rfl, hc.1, hc.2, Sl.set1 (Sl.set1 (Sl.set1 (Sl.set1 S2.out hn) hr) hr) hn, HF.out⟩
 . have R := (r2.setAt 0 (.slice a l.length c)).setAt 1 (.int .i64 su)
   have R1 := R.other (B' := d) hne' 0 (.int .i32 0)
   have D4 := (h2.other (B' := z) hne 0 (.slice a l.length c)).other (B' := z) hne 1 (.int .i64 su)
   obtain ⟨x0, x1⟩ := Blk.row2 R1
   obtain ⟨y0, -, -, -, -⟩ := D4.row5d
   have t0 := D4.thaw 0
   clear R R1 D4
   go_wp2
   refine leaves_cons (f := 194) (args := #[.pointer (some ⟨d, 0, none⟩)]) (by simp) (by simp [go_sem]) ?_
   refine (unlock_deferred muLib ⟨d, 0, none⟩ .returning _ y0 t0).mono ?_
   rintro e u' w'' ⟨rfl, rfl, rfl⟩
   refine ⟨.agg #[.slice a l.length c, .int .i64 su], ?_, rfl, ?_, ?_⟩
   . simp only [results, Tryz.results163]
     simp [go_sem, x0, x1]
   . exact Qa7 (Qa7 (Qa7 g2 hzz _) hzz _) hd _
   . exact ⟨a, c, F, rfl, hc.1, hc.2, Sl.set1 (Sl.set1 (Sl.set1 S2.out hr) hr) hn, HF.out⟩
end Go.Proofs.YtenhcjkkpnlbeaaGreatDoor.Gen
