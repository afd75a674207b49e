/-
  Numbers, texts and bytes that are drawn. Condition: at most 1048576 bytes of code.
-/
import Derived.Test.YtlniljigeemnoaaGreatRowDraw1
set_option linter.unusedVariables false
set_option linter.unusedSimpArgs false
set_option maxRecDepth 100000
set_option maxHeartbeats 8000000
namespace Go.Proofs.YtlniljigeemnoaaGreat.Gen
open ChangeShapes WideShapes ChangeAt RowKit Joins Deep Base
theorem Qha {B : Nat} {W : World} {a : Option Addr} {c n k : Nat} {t : TypeId} {xs : List Value} (h : W.ownsRow B t k (.slice a n c) n xs) : n <= c /\ c <= 9223372036854775807 := by
 rcases h.2 with ⟨e, h0⟩ | ⟨g, c', cur, e, _, _, hc, hm, _⟩
 . cases e; omega
 . cases e; exact ⟨hc, by simpa [maxLen] using Nat.le_trans hm (by simp [maxLen])⟩
theorem Qgb {C B : Nat} {w W W' : World} (h : Only C w W) (hB : w.heap.size <= B) (g : Below B W W') : Only C w W' :=
 ⟨g.os.trans h.os, g.tape.trans h.tape, g.output.trans h.output, Nat.le_trans h.size g.size, fun k hk hne => (g.block k (by omega)).trans (h.block k hk hne)⟩
theorem Drawn.under {W W' : World} {C cap n : Nat} {A : Option Addr} {l : List By} (h : Drawn W C A cap l) (g : Below n W W') (hC : C < n) : Drawn W' C A cap l := by
 refine ⟨?_, h.code.imp id fun ⟨b, o, e, hb, hi⟩ => ⟨b, o, e, hb, fun j v hv => (World.cell?_of_block (a := ⟨b, o + j, none⟩) (g.block b (by omega))).trans (hi j v hv)⟩, h.len, h.byte⟩
 obtain ⟨i, x, hi, hb⟩ := h.cur
 exact ⟨i, x, hi, (g.block C hC).trans hb⟩
end Go.Proofs.YtlniljigeemnoaaGreat.Gen
