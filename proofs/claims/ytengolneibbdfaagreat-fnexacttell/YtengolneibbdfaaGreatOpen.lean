/-
  Data opened: a struct of fields of one cell each, handed by value. No condition.
-/
import Derived.Test.YtengolneibbdfaaGreatBase
import Derived.Lib.SmallJoins
namespace Go.Proofs.YtengolneibbdfaaGreat.Base
open Go.ChangeShapes Go.WideShapes Go.ChangeAt Go.RowKit Go.Joins Go.Deep
theorem fields_of {H : Type} {enc : TypeId × Value -> H} {P : Program} {w : World} {base : Nat} {spare : Nat -> Bool} {held : Bool} {t : TypeId} {fs : Array Field} {cs : Array Value} {d : DataW H} {p : List MemPlace}
    (hs : P.underlying t = some (.struct fs)) (hone : oneCellFields P fs = true) (h : DataW.Trod enc P w base spare held t (.agg cs) d p) :
    ∃ n, ∀ (i : Nat) (f : Field), fs[i]? = some f -> ∀ c, cs[i]? = some c -> ∃ y, DataW.trod enc P w base spare held n f.type [c] = some y := by
  obtain ⟨fuel, hf⟩ := h
  obtain ⟨xs, n, _, _, hl, hlen, hf⟩ := DataW.trod_struct hs hf
  refine ⟨n, fun i f hi c hc => ?_⟩
  obtain ⟨o, k⟩ := hone_of hone i f hi
  have hlt : i < fs.size := (Array.getElem?_eq_some_iff.1 hi).1
  have g := hf i f hi
  rw [o, k] at g
  have e : (Value.cells (.agg cs)).toList.drop i = c :: (Value.cells (.agg cs)).toList.drop (i + 1) := by
    have hc' : (Value.cells (.agg cs)).toList[i]? = some c := by simpa [Value.cells] using hc
    obtain ⟨h1, h2⟩ := List.getElem?_eq_some_iff.1 hc'
    rw [List.drop_eq_getElem_cons h1, h2]
  rw [e] at g
  exact ⟨xs[i]'(by omega), by rw [← List.getElem?_eq_getElem]; simpa using g⟩
end Go.Proofs.YtengolneibbdfaaGreat.Base
