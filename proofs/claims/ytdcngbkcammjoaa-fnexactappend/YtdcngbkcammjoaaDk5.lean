/-
  The program's drive: made of a disk, put to, made sure. No condition but that there are at most 1048576 bytes.
-/
import Derived.Test.YtdcngbkcammjoaaDk4
import Derived.Test.YtdcngbkcammjoaaLks
import Derived.Laws.LoneSync
import Derived.Conc.MuLone
namespace Go.Proofs.Ytdcngbkcammjoaa.Gen
open Go.ChangeShapes Go.WideShapes Go.ChangeAt Go.RowKit Go.Joins Go.Deep Base Go.MuLone
set_option linter.unusedVariables false
set_option linter.unusedSimpArgs false

theorem Blk.row5d {W : World} {B : Nat} {t : TypeId} {a b c d e : Value} (h : Blk W B t #[a, b, c, d, e]) : W.cell? ⟨B, 0, none⟩ = some a ∧ W.cell? ⟨B, 1, none⟩ = some b ∧ W.cell? ⟨B, 2, none⟩ = some c ∧ W.cell? ⟨B, 3, none⟩ = some d ∧ W.cell? ⟨B, 4, none⟩ = some e := ⟨h.cell (by rfl), h.cell (by rfl), h.cell (by rfl), h.cell (by rfl), h.cell (by rfl)⟩

theorem load64_any (d : Nat) (n : Int) (w : World) (h : w.cell? ⟨d, 4, none⟩ = some (.int .i64 n)) :
    Calls Try.prog 39 #[.pointer (some ⟨d, 4, none⟩)] w fun e w' => e = .returned (.int .i64 n) ∧ w' = w := by
  have hl := run_call_load (P := Try.prog) Try.func44 (by kernel_rfl) (by kernel_rfl) (by kernel_rfl) .i64 (by kernel_rfl) h
  go_enter Try.func39, Try.ntmps39
  go_wp2
  go_ret
  exact ⟨rfl, rfl⟩

theorem add64_any (d : Nat) (w : World) (h : w.cell? ⟨d, 4, none⟩ = some (.int .i64 0)) (hz : w.frozen? ⟨d, 4, none⟩ = false) :
    Calls Try.prog 40 #[.pointer (some ⟨d, 4, none⟩), .int .i64 1] w fun e w' => e = .returned (.int .i64 1) ∧ w' = w.setCell ⟨d, 4, none⟩ (.int .i64 1) := by
  have hl := run_call_add (P := Try.prog) Try.func45 (by kernel_rfl) (by kernel_rfl) (by kernel_rfl) .i64 (by kernel_rfl) (y := 1) (s := 1) h hz (by simp [go_sem]; rfl)
  go_enter Try.func40, Try.ntmps40
  go_wp2
  go_ret
  exact ⟨rfl, rfl⟩

set_option maxRecDepth 100000 in
theorem copied_any (su : Int) (A : Option Addr) (cap : Nat) (l : List UInt8) (hl : l.length ≤ 3000000) (w : World) (hA : At w A l) :
    Calls Try.prog 35 #[.agg #[.slice A l.length cap, .int .i64 su]] w fun e w' => ∃ a c, e = .returned (.agg #[.slice a l.length c, .int .i64 su]) ∧ w'.ownsRow w.heap.size 5 1 (.slice a l.length c) l.length (flat l) ∧ Below w.heap.size w w' := by
  have HA := hidP hA
  clear hA
  have B0 : Below w.heap.size w ((w.alloc (.cells #[.slice A l.length cap, .int .i64 su] 27)).alloc (.cells #[.slice none 0 0, .int .i64 0] 27)) := alloc0 (alloc0 (Below.refl _ _) _) _
  have p := (Blk.new w 27 #[.slice A l.length cap, .int .i64 su]).alloc (.cells #[.slice none 0 0, .int .i64 0] 27)
  have r := Blk.new (w.alloc (.cells #[.slice A l.length cap, .int .i64 su] 27)) 27 #[.slice none 0 0, .int .i64 0]
  rw [World.size_alloc] at r
  have zr : w.heap.size + 1 < ((w.alloc (.cells #[.slice A l.length cap, .int .i64 su] 27)).alloc (.cells #[.slice none 0 0, .int .i64 0] 27)).heap.size := r.lt
  obtain ⟨v1, w1, hr1, own1, gr1, at1⟩ := append_els8 ((w.alloc (.cells #[.slice A l.length cap, .int .i64 su] 27)).alloc (.cells #[.slice none 0 0, .int .i64 0] 27)).heap.size (.slice none 0 0) [] l A cap ((w.alloc (.cells #[.slice A l.length cap, .int .i64 su] 27)).alloc (.cells #[.slice none 0 0, .int .i64 0] 27)) (Nat.le_refl _) (World.ownsRow_nil _ _ _ _) (HA.out.below B0) (by simp; omega)
  simp only [List.length_nil, Nat.zero_add, List.nil_append] at own1
  obtain ⟨a1, c1, rfl, _⟩ := owns_form own1
  have B1 : Below w.heap.size w w1 := B0.grown gr1 B0.size (fun k e => by cases e)
  have p1 := p.kept gr1 (by intro h; cases h)
  have r1 := r.kept gr1 (by intro h; cases h)
  have z0 := B0.size
  have far : ∀ C, C < ((w.alloc (.cells #[.slice A l.length cap, .int .i64 su] 27)).alloc (.cells #[.slice none 0 0, .int .i64 0] 27)).heap.size → some C ≠ (Value.slice a1 l.length c1).ownBlock := fun C hC => owns_far own1 hC
  have R := (((r1.other (B' := w.heap.size) (by omega) 0 (.slice a1 l.length c1)).setAt 0 (.slice a1 l.length c1)).setAt 1 (.int .i64 su))
  have P1 : Blk _ w.heap.size 27 #[.slice a1 l.length c1, .int .i64 su] := p1.setAt 0 (.slice a1 l.length c1)
  obtain ⟨e0, e1⟩ := Blk.row2 R
  obtain ⟨u0, u1⟩ := p.row2
  obtain ⟨k0, k1⟩ := p1.row2
  obtain ⟨m0, m1⟩ := P1.row2
  obtain ⟨y0, y1⟩ := r1.row2
  have f0 := p1.thaw 0
  have f1 := r1.thaw 0
  have f2 := r1.thaw 1
  have O1 := hidP own1
  have Far := hidP far
  clear R P1 own1 gr1 at1 far
  go_enter Try.func35, Try.ntmps35
  go_wp2_with (at_builtin; refine wpList_append_is rfl _ _ _ rfl _ _ _ rfl rfl hr1 ?_)
  exact bodyPost_ret (v := .agg #[.slice a1 l.length c1, .int .i64 su]) (by simp [results, Try.results35, go_sem, e0, e1]) rfl
    ⟨_, _, rfl, owns_mono (owns_set (owns_set (owns_set O1.out (Far.out _ (by omega))) (Far.out _ zr)) (Far.out _ zr)) z0, bl_set (bl_set (bl_set B1 (by omega) _) (by omega) _) (by omega) _⟩

set_option maxRecDepth 100000 in
theorem driveOf_any (su : Int) (A : Option Addr) (cap : Nat) (l : List UInt8) (hl : l.length ≤ 3000000) (w : World) (hA : At w A l) :
    Calls Try.prog 27 #[.agg #[.slice A l.length cap, .int .i64 su]] w fun e w' => ∃ d a c, e = .returned (.pointer (some ⟨d, 0, none⟩)) ∧ Blk w' d 62 #[.int .i32 0, .int .u32 0, .slice a l.length c, .int .i64 su, .int .i64 0] ∧ w'.ownsRow w.heap.size 5 1 (.slice a l.length c) l.length (flat l) ∧ w.heap.size ≤ d ∧ some d ≠ (Value.slice a l.length c).ownBlock ∧ Below w.heap.size w w' := by
  have HA := hidP hA
  clear hA
  go_enter Try.func27, Try.ntmps27
  go_wp2_with fail
  refine (copied_any su A cap l hl _ (HA.out.below (alloc0 (Below.refl _ _) _))).mono ?_
  rintro e w1 ⟨a, c, rfl, o1, g1⟩
  have B1 : Below w.heap.size w w1 := by repeat (first | exact Below.refl _ _ | assumption | refine via0 (by assumption) ?_ | refine Below.drew ?_ | refine alloc0 ?_ _)
  have O1 := hidP o1
  have z := B1.size
  have n : some w1.heap.size ≠ (Value.slice a l.length c).ownBlock := fun e => Nat.lt_irrefl _ (owns_lt O1.out e.symm)
  clear o1 g1
  go_wp2
  go_ret
  exact ⟨_, _, _, rfl, Blk.new _ _ _, owns_mono (owns_alloc O1.out _) (by simp), z, n, alloc0 B1 _⟩

theorem room_any (su : Int) (A : Option Addr) (cap n : Nat) (hn : n ≤ 3000000) (w : World) :
    Calls Try.prog 38 #[.agg #[.slice A n cap, .int .i64 su]] w fun e w' => e = .returned (.int .i64 (80000 - (n : Int))) ∧ Below w.heap.size w w' := by
  go_enter Try.func38, Try.ntmps38
  go_wp2
  go_ret
  exact ⟨rfl, by repeat (first | exact Below.refl _ _ | assumption | refine via0 (by assumption) ?_ | refine Below.drew ?_ | refine alloc0 ?_ _)⟩
theorem notSure_any (su : Int) (A : Option Addr) (cap n : Nat) (hn : n ≤ 3000000) (h0 : 0 ≤ su) (h1 : su ≤ (n : Int)) (w : World) :
    Calls Try.prog 41 #[.agg #[.slice A n cap, .int .i64 su]] w fun e w' => e = .returned (.int .i64 ((n : Int) - su)) ∧ Below w.heap.size w w' := by
  go_enter Try.func41, Try.ntmps41
  go_wp2
  go_ret
  exact ⟨rfl, by repeat (first | exact Below.refl _ _ | assumption | refine via0 (by assumption) ?_ | refine Below.drew ?_ | refine alloc0 ?_ _)⟩

theorem makeSure_any (d : Nat) (w : World) (h : w.cell? ⟨d, 4, none⟩ = some (.int .i64 0)) (hz : w.frozen? ⟨d, 4, none⟩ = false) :
    Calls Try.prog 31 #[.pointer (some ⟨d, 0, none⟩)] w fun e w' => e = .returned (.tuple #[]) ∧ w' = w.setCell ⟨d, 4, none⟩ (.int .i64 1) := by
  go_enter Try.func31, Try.ntmps31
  go_wp2_with fail
  refine (add64_any d w h hz).mono ?_
  rintro e w' ⟨rfl, rfl⟩
  go_wp2
  go_end0
  exact ⟨rfl, rfl⟩
end Go.Proofs.Ytdcngbkcammjoaa.Gen
