/-
  The program's NoteOf. Condition: at most 1048576 bytes.
-/
import Derived.Test.YtfbbifdfjjkknaaNAt
namespace Go.Proofs.Ytfbbifdfjjkknaa.Gen
open Go.ChangeShapes Go.WideShapes Go.ChangeAt Go.RowKit Go.Joins Go.Deep Base
set_option linter.unusedVariables false
set_option linter.unusedSimpArgs false

set_option maxRecDepth 100000 in
set_option maxHeartbeats 4000000 in
theorem implNoteOf_any (A : Option Addr) (cap : Nat) (l : List UInt8) (hl : l.length ≤ 1048576) (hcap : l.length ≤ cap) (hcm : cap ≤ 9223372036854775807) (i : Int) (hi : I64 i) (w : World) (hA : At w A l) :
    Calls Try.prog 22 #[.slice A l.length cap, .int .i64 i] w fun e w' => Below w.heap.size w w' ∧
      ((∃ x c aa cc, ofN l i = some (x, c) ∧ w'.ownsRow w.heap.size 56 (Cel.k En) (.slice aa (List.length x.l) cc) (List.length x.l) (flat x.l) ∧ e = .returned (.tuple #[.agg #[.int .i64 x.kind, .int .i64 x.term, .int .i64 x.vote, .int .i64 x.prev, .slice aa (List.length x.l) cc, .string x.snap], .int .i64 (c : Int), .bool true])) ∨ (ofN l i = none ∧ e = .returned (.tuple #[.agg #[.int .i64 0, .int .i64 0, .int .i64 0, .int .i64 0, .slice none 0 0, .string ⟨#[]⟩], .int .i64 0, .bool false]))) := by
  have hbl := alloc0 (Below.refl _ w) (.cells #[.int .i64 0, .int .i64 0, .int .i64 0, .int .i64 0, .slice none 0 0, .string ⟨#[]⟩] 29)
  have p0 := Blk.new w 29 #[.int .i64 0, .int .i64 0, .int .i64 0, .int .i64 0, .slice none 0 0, .string ⟨#[]⟩]
  have hR := hidP (noteAt_any A cap l hl hcap hcm i hi (w.alloc (.cells #[.int .i64 0, .int .i64 0, .int .i64 0, .int .i64 0, .slice none 0 0, .string ⟨#[]⟩] 29)) (hA.below hbl))
  have Hp0 := hidP p0
  have Hbl := hidP hbl
  clear hA p0 hbl
  go_enter Try.func22, Try.ntmps22
  go_wp2_with fail
  refine hR.out.mono ?_
  rintro e w1 ⟨g1, h1⟩
  have P1 := hidP (Hp0.out.below g1 Hp0.out.lt)
  have B1 := hidP (via0 g1 Hbl.out)
  clear g1 hR Hbl
  rcases h1 with ⟨x, c, aa, cc, hg, hown, rfl⟩ | ⟨hg, rfl⟩
  · have HN := hidP hg
    have HOw0 := hidP (owns_mono (C := w.heap.size + 1) hown (by simp))
    clear hown hg
    have hlt1 : w.heap.size < w1.heap.size := P1.out.lt
    have oo := (((((((Only.refl (w.heap.size) w1).set 0 (.int .i64 x.kind)).set 1 (.int .i64 x.term)).set 2 (.int .i64 x.vote)).set 3 (.int .i64 x.prev)).set 4 (.slice aa (List.length x.l) cc)).set 5 (.string x.snap))
    have HBz := hidP (Below.drew (alloc0 (B1.out.trans (oo.toBelow (Nat.le_refl _) B1.out.size)) (.cells #[.int .i64 x.kind, .int .i64 x.term, .int .i64 x.vote, .int .i64 x.prev, .slice aa (List.length x.l) cc, .string x.snap] 29)))
    have HOz := hidP (owns_below (owns_alloc (owns_only' HOw0.out oo (by omega)) (.cells #[.int .i64 x.kind, .int .i64 x.term, .int .i64 x.vote, .int .i64 x.prev, .slice aa (List.length x.l) cc, .string x.snap] 29)) (Below.drew (Below.refl _ _)))
    clear HOw0
    have rr0 : w1.cell? ⟨w.heap.size, 0, none⟩ = some (.int .i64 0) := P1.out.cell (i := 0) rfl
    have zz0 := P1.out.thaw 0
    have rr1 : w1.cell? ⟨w.heap.size, 1, none⟩ = some (.int .i64 0) := P1.out.cell (i := 1) rfl
    have zz1 := P1.out.thaw 1
    have rr2 : w1.cell? ⟨w.heap.size, 2, none⟩ = some (.int .i64 0) := P1.out.cell (i := 2) rfl
    have zz2 := P1.out.thaw 2
    have rr3 : w1.cell? ⟨w.heap.size, 3, none⟩ = some (.int .i64 0) := P1.out.cell (i := 3) rfl
    have zz3 := P1.out.thaw 3
    have rr4 : w1.cell? ⟨w.heap.size, 4, none⟩ = some (.slice none 0 0) := P1.out.cell (i := 4) rfl
    have zz4 := P1.out.thaw 4
    have rr5 : w1.cell? ⟨w.heap.size, 5, none⟩ = some (.string ⟨#[]⟩) := P1.out.cell (i := 5) rfl
    have zz5 := P1.out.thaw 5
    clear P1 B1 oo
    go_wp2_with fail
    go_region
    go_wp2
    exact bodyPost_ret (v := .tuple #[.agg #[.int .i64 x.kind, .int .i64 x.term, .int .i64 x.vote, .int .i64 x.prev, .slice aa (List.length x.l) cc, .string x.snap], .int .i64 (c : Int), .bool true]) (by simp [results, Try.results22, go_sem, rr0, rr1, rr2, rr3, rr4, rr5, hlt1, Nat.ne_of_lt hlt1, Nat.ne_of_gt hlt1]) rfl ⟨HBz.out, .inl ⟨x, c, aa, cc, HN.out, owns_mono HOz.out (by omega), rfl⟩⟩
  · have HN := hidP hg
    clear hg
    have hlt1 : w.heap.size < w1.heap.size := P1.out.lt
    have oo := (((((((Only.refl (w.heap.size) w1).set 0 (.int .i64 0)).set 1 (.int .i64 0)).set 2 (.int .i64 0)).set 3 (.int .i64 0)).set 4 (.slice none 0 0)).set 5 (.string ⟨#[]⟩))
    have HBz := hidP (Below.drew (alloc0 (B1.out.trans (oo.toBelow (Nat.le_refl _) B1.out.size)) (.cells #[.int .i64 0, .int .i64 0, .int .i64 0, .int .i64 0, .slice none 0 0, .string ⟨#[]⟩] 29)))
    have rr0 : w1.cell? ⟨w.heap.size, 0, none⟩ = some (.int .i64 0) := P1.out.cell (i := 0) rfl
    have zz0 := P1.out.thaw 0
    have rr1 : w1.cell? ⟨w.heap.size, 1, none⟩ = some (.int .i64 0) := P1.out.cell (i := 1) rfl
    have zz1 := P1.out.thaw 1
    have rr2 : w1.cell? ⟨w.heap.size, 2, none⟩ = some (.int .i64 0) := P1.out.cell (i := 2) rfl
    have zz2 := P1.out.thaw 2
    have rr3 : w1.cell? ⟨w.heap.size, 3, none⟩ = some (.int .i64 0) := P1.out.cell (i := 3) rfl
    have zz3 := P1.out.thaw 3
    have rr4 : w1.cell? ⟨w.heap.size, 4, none⟩ = some (.slice none 0 0) := P1.out.cell (i := 4) rfl
    have zz4 := P1.out.thaw 4
    have rr5 : w1.cell? ⟨w.heap.size, 5, none⟩ = some (.string ⟨#[]⟩) := P1.out.cell (i := 5) rfl
    have zz5 := P1.out.thaw 5
    clear P1 B1 oo
    go_wp2_with fail
    go_region
    go_wp2
    exact bodyPost_ret (v := .tuple #[.agg #[.int .i64 0, .int .i64 0, .int .i64 0, .int .i64 0, .slice none 0 0, .string ⟨#[]⟩], .int .i64 0, .bool false]) (by simp [results, Try.results22, go_sem, rr0, rr1, rr2, rr3, rr4, rr5, hlt1, Nat.ne_of_lt hlt1, Nat.ne_of_gt hlt1]) rfl ⟨HBz.out, .inr ⟨HN.out, rfl⟩⟩
end Go.Proofs.Ytfbbifdfjjkknaa.Gen
