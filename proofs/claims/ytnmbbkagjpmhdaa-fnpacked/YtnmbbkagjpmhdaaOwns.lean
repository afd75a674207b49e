/-
  A list of one's own: what leaves it as it is.
-/
import Derived.Test.YtnmbbkagjpmhdaaCopies
namespace Go.Proofs.Ytnmbbkagjpmhdaa.Items
open Go.ChangeShapes Go.WideShapes Go.ChangeAt Go.RowKit Go.Shelf Base
set_option linter.unusedVariables false

theorem owns_below {B : Nat} {W W' : World} {v : Value} {t : TypeId} {k n : Nat} {xs : List Value} (h : W.ownsRow B t k v n xs) (hb : Below W.heap.size W W') : W'.ownsRow B t k v n xs := by
  refine ⟨h.1, ?_⟩
  rcases h.2 with ⟨rfl, rfl⟩ | ⟨g, c, cur, rfl, hB, hg, hc, hm, hsz, ht⟩
  · exact .inl ⟨rfl, rfl⟩
  · exact .inr ⟨g, c, cur, rfl, hB, Blk.below (show Blk W g t cur from hg) hb (Blk.lt (show Blk W g t cur from hg)), hc, hm, hsz, ht⟩
theorem owns_alloc {B : Nat} {W : World} {v : Value} {t : TypeId} {k n : Nat} {xs : List Value} (h : W.ownsRow B t k v n xs) (o : Obj) : (W.alloc o).ownsRow B t k v n xs := owns_below h (alloc0 (Below.refl _ _) _)
theorem owns_mono {B C : Nat} {W : World} {v : Value} {t : TypeId} {k n : Nat} {xs : List Value} (h : W.ownsRow B t k v n xs) (hC : C ≤ B) : W.ownsRow C t k v n xs := by
  refine ⟨h.1, ?_⟩
  rcases h.2 with ⟨rfl, rfl⟩ | ⟨g, c, cur, rfl, hB, hg, hc, hm, hsz, ht⟩
  · exact .inl ⟨rfl, rfl⟩
  · exact .inr ⟨g, c, cur, rfl, by omega, hg, hc, hm, hsz, ht⟩

theorem owns_lt {B : Nat} {W : World} {v : Value} {t : TypeId} {k n : Nat} {xs : List Value} (h : W.ownsRow B t k v n xs) {g : Nat} (hg : v.ownBlock = some g) : g < W.heap.size := by
  rcases h.2 with ⟨rfl, rfl⟩ | ⟨g', c, cur, rfl, hB, hb, _⟩
  · cases hg
  · have : g' = g := by simpa [Value.ownBlock] using hg
    subst this
    exact Blk.lt (show Blk W g' t cur from hb)
theorem owns_at {B : Nat} {W : World} {a : Option Addr} {c : Nat} {t : TypeId} {l : List It} (h : W.ownsRow B t 5 (.slice a l.length c) l.length (flat l)) : At W a l := by
  obtain ⟨A, c', e, _, hA⟩ := fresh_owns h
  cases e
  exact hA.imp id fun ⟨b, o, e, _, hb, hi, _⟩ => ⟨b, o, e, hb, hi⟩

end Go.Proofs.Ytnmbbkagjpmhdaa.Items
