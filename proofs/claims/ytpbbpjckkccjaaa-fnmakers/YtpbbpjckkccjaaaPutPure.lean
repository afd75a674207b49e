/-
  What MakerPut answers.
-/
import Derived.Test.YtpbbpjckkccjaaaLastMarks
namespace Go.Proofs.Ytpbbpjckkccjaaa.Gen
open Go.ChangeShapes Go.WideShapes Go.ChangeAt Go.RowKit Go.Joins Go.Deep Base
set_option linter.unusedVariables false

/-- What a put leaves: its epoch, its last number, its marks. -/
def putD (epoch last : Int) (l : List Mk) (ep seq : Int) : Bool := decide (askC epoch last l ep seq = 0)
def putE (epoch last : Int) (l : List Mk) (ep seq : Int) : Int := if putD epoch last l ep seq then ep else epoch
def putS (epoch last : Int) (l : List Mk) (ep seq : Int) : Int := if putD epoch last l ep seq then seq else last
def putB (epoch : Int) (l : List Mk) (ep : Int) : List Mk := if ep > epoch then [] else l
def lastN (window : Int) (L : List Mk) : List Mk := L.drop (L.length - window.toNat)
def putM (window epoch last : Int) (l : List Mk) (ep seq off : Int) : List Mk := if putD epoch last l ep seq then lastN window (putB epoch l ep ++ [⟨seq, off⟩]) else l
theorem askC_epoch {epoch last : Int} {l : List Mk} {ep seq : Int} (h : askC epoch last l ep seq = 0) : epoch ≤ ep := by
  unfold askC at h
  split at h
  · omega
  · omega
theorem putM_le (window epoch last : Int) (l : List Mk) (ep seq off : Int) (hl : l.length ≤ 1048576) : (putM window epoch last l ep seq off).length ≤ 1048577 := by
  unfold putM lastN putB
  split
  · rw [List.length_drop]; split <;> simp <;> omega
  · omega
end Go.Proofs.Ytpbbpjckkccjaaa.Gen
