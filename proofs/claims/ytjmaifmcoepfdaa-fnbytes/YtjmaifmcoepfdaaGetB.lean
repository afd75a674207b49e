/-
  The program's GetNum and GetText. Condition: at most 1048576 bytes.
-/
import Derived.Test.YtjmaifmcoepfdaaReadAt
namespace Go.Proofs.Ytjmaifmcoepfdaa.Gen
open Go.ChangeShapes Go.WideShapes Go.ChangeAt Go.RowKit Go.Joins Go.Deep Base
set_option linter.unusedVariables false

theorem implGetNum_any (A : Option Addr) (cap : Nat) (l : List UInt8) (hl : l.length ≤ 1048576) (i : Int) (hi : I64 i) (w : World) (hA : At w A l) :
    Calls Try.prog 16 #[.slice A l.length cap, .int .i64 i] w fun e w' => e = .returned (numT (getN l i)) ∧ Below w.heap.size w w' := by
  have hR := hidP (readAtNum_any (getN l i) 44 #[] A cap l i hi w hA (fun p W => by simp [go_sem]) (fun W r _ _ _ hrd => readNum_any r A cap l i hl W hrd))
  clear hA
  go_enter Try.func16, Try.ntmps16
  go_wp2_with fail
  refine hR.out.mono ?_
  rintro e w' ⟨hb, ⟨x, c, hg, rfl⟩ | ⟨hg, rfl⟩⟩
  · go_wp2
    exact bodyPost_ret (v := .tuple #[.int .i64 (x : Int), .int .i64 (c : Int), .bool true]) (by simp [results, Try.results16, go_sem]) rfl ⟨by rw [hg]; rfl, hb⟩
  · go_wp2
    exact bodyPost_ret (v := .tuple #[.int .i64 0, .int .i64 0, .bool false]) (by simp [results, Try.results16, go_sem]) rfl ⟨by rw [hg]; rfl, hb⟩

theorem implGetText_any (A : Option Addr) (cap : Nat) (l : List UInt8) (hl : l.length ≤ 1048576) (hcap : l.length ≤ cap) (hcm : cap ≤ 9223372036854775807) (i : Int) (hi : I64 i) (w : World) (hA : At w A l) :
    Calls Try.prog 17 #[.slice A l.length cap, .int .i64 i] w fun e w' => e = .returned (txtT (getT l i)) ∧ Below w.heap.size w w' := by
  have hR := hidP (readAtTxt_any (getT l i) 46 #[] A cap l i hi w hA (fun p W => by simp [go_sem]) (fun W r _ _ _ hrd => readTxt_any r A cap l i hl hcap hcm W hrd))
  clear hA
  go_enter Try.func17, Try.ntmps17
  go_wp2_with fail
  refine hR.out.mono ?_
  rintro e w' ⟨hb, ⟨x, c, hg, rfl⟩ | ⟨hg, rfl⟩⟩
  · go_wp2
    exact bodyPost_ret (v := .tuple #[.string x, .int .i64 (c : Int), .bool true]) (by simp [results, Try.results17, go_sem]) rfl ⟨by rw [hg]; rfl, hb⟩
  · go_wp2
    exact bodyPost_ret (v := .tuple #[.string ⟨#[]⟩, .int .i64 0, .bool false]) (by simp [results, Try.results17, go_sem]) rfl ⟨by rw [hg]; rfl, hb⟩
end Go.Proofs.Ytjmaifmcoepfdaa.Gen
