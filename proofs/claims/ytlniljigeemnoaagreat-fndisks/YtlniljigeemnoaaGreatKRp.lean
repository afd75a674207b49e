/-
  spec.RowPut in one sentence. No condition but that there are at most 1048575 items, and the length that every text has.
-/
import Derived.Test.YtlniljigeemnoaaGreatSpecRowPut
set_option linter.unusedVariables false
set_option linter.unusedSimpArgs false
set_option maxRecDepth 100000
set_option maxHeartbeats 8000000
namespace Go.Proofs.YtlniljigeemnoaaGreat.Gen
open ChangeShapes WideShapes ChangeAt RowKit Joins Deep Base
open Items (It)
def rpOk (start next : Int) (l : List It) (key text : ByteArray) (who time : Int) : Bool := Items.putB start next l ⟨next, key, text, who, time⟩
def rpL (start next : Int) (l : List It) (key text : ByteArray) (who time : Int) : List It := if rpOk start next l key text who time then l ++ [⟨next, key, text, who, time⟩] else l
def rpX (start next : Int) (l : List It) (key text : ByteArray) (who time : Int) : Int := if rpOk start next l key text who time then wrap64 (next + 1) else next
def rpN (start next : Int) (l : List It) (key text : ByteArray) (who time : Int) : Int := if rpOk start next l key text who time then next else 0
theorem Qf0 (start next who time : Int) (key text : ByteArray) (A : Option Addr) (cap : Nat) (l : List It) (hl : l.length <= 1000000) (hs : ∀ x ∈ l, x.key.size <= 9223372036854775807 /\ x.text.size <= 9223372036854775807) (hn : Items.I64 next) (hk : key.size <= 9223372036854775807) (ht : text.size <= 9223372036854775807) (w : World) (hA : At w A l) :
 Calls Tryz.prog 109 #[.agg (Qaz start next A l.length cap), .string key, .string text, .int .i64 who, .int .i64 time] w fun e w' => ∃ a c, e = .returned (.tuple #[.agg (Qaz start (rpX start next l key text who time) a (rpL start next l key text who time).length c), .int .i64 (rpN start next l key text who time), .bool (rpOk start next l key text who time)]) /\
  w'.ownsRow w.heap.size 121 5 (.slice a (rpL start next l key text who time).length c) (rpL start next l key text who time).length (flat (rpL start next l key text who time)) /\ Below w.heap.size w w' := by
 cases h1 : Items.rowB start next l with
 | false =>
  have e : rpOk start next l key text who time = false := by simp [rpOk, Items.putB, h1]
  refine (Items.specRowPut_no start next who time key text A cap l (by omega) hs hn h1 w hA).mono ?_
  rintro e' w' ⟨v, rfl, ho, hb⟩
  obtain ⟨a, c, rfl, _⟩ := Qao ho
  rw [show rpL start next l key text who time = l by simp [rpL, e], e, show rpX start next l key text who time = next by simp [rpX, e], show rpN start next l key text who time = 0 by simp [rpN, e]]
  exact ⟨a, c, rfl, ho, hb⟩
 | true =>
  refine (Items.specRowPut_yes start next who time key text A cap l (by omega) hs hn hk ht h1 w hA).mono ?_
  rintro e' w' (⟨h2, v, rfl, ho, hb⟩ | ⟨h2, v, rfl, ho, hb⟩)
  . have e : rpOk start next l key text who time = true := by simp [rpOk, Items.putB, h1, h2]
    obtain ⟨a, c, rfl, _⟩ := Qao ho
    have hL : rpL start next l key text who time = l ++ [⟨next, key, text, who, time⟩] := by simp [rpL, e]
    have hn2 : l.length + 1 = (l ++ [(⟨next, key, text, who, time⟩ : It)]).length := by simp
    rw [hL, e, show rpX start next l key text who time = wrap64 (next + 1) by simp [rpX, e], show rpN start next l key text who time = next by simp [rpN, e], ← hn2]
    exact ⟨a, c, rfl, ho, hb⟩
  . have e : rpOk start next l key text who time = false := by simp [rpOk, Items.putB, h1, h2]
    obtain ⟨a, c, rfl, _⟩ := Qao ho
    rw [show rpL start next l key text who time = l by simp [rpL, e], e, show rpX start next l key text who time = next by simp [rpX, e], show rpN start next l key text who time = 0 by simp [rpN, e]]
    exact ⟨a, c, rfl, ho, hb⟩
end Go.Proofs.YtlniljigeemnoaaGreat.Gen
