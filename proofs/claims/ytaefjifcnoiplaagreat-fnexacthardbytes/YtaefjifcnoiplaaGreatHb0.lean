/-
  What is written down of what a node must keep: its notes one behind the other, as lists alone; and lists of notes that lie in memory. No condition.
-/
import Derived.Test.YtaefjifcnoiplaaGreatNB1
import Derived.Test.YtaefjifcnoiplaaGreatLCut
namespace Go.Proofs.YtaefjifcnoiplaaGreat.Gen
open Go.ChangeShapes Go.WideShapes Go.ChangeAt Go.RowKit Go.Joins Go.Deep Base
set_option linter.unusedVariables false
set_option linter.unusedSimpArgs false
structure HN where
  kind : Int
  term : Int
  vote : Int
  prev : Int
  A : Option Addr
  cap : Nat
  l : List En
  snap : ByteArray
instance : Inhabited HN := ⟨⟨0, 0, 0, 0, none, 0, [], ⟨#[]⟩⟩⟩
instance : Cel HN where
  k := 6
  cs x := [Value.int .i64 x.kind, Value.int .i64 x.term, Value.int .i64 x.vote, Value.int .i64 x.prev, Value.slice x.A x.l.length x.cap, Value.string x.snap]
  len _ := rfl
  one x u hu := by simp at hu; rcases hu with rfl | rfl | rfl | rfl | rfl | rfl<;>rfl
structure HP where
  kind : Int
  term : Int
  vote : Int
  prev : Int
  l : List En
  snap : ByteArray
def HN.p (x : HN) : HP := ⟨x.kind, x.term, x.vote, x.prev, x.l, x.snap⟩
def HP.b (x : HP) : List UInt8 := noteO x.kind x.term x.vote x.prev x.l x.snap
def EachH (w : World) (l : List HN) : Prop := ∀ x ∈ l, At w x.A x.l
theorem In.getHN {w : World} {b o : Nat} {l : List HN} (h : In w b o l) (i : Nat) (hi : i < l.length) :
    w.cell? ⟨b, o + i * 6, none⟩ = some (Value.int .i64 l[i].kind) /\ w.cell? ⟨b, o + i * 6 + 1, none⟩ = some (Value.int .i64 l[i].term) /\ w.cell? ⟨b, o + i * 6 + 2, none⟩ = some (Value.int .i64 l[i].vote) /\ w.cell? ⟨b, o + i * 6 + 3, none⟩ = some (Value.int .i64 l[i].prev) /\ w.cell? ⟨b, o + i * 6 + 4, none⟩ = some (Value.slice l[i].A l[i].l.length l[i].cap) /\ w.cell? ⟨b, o + i * 6 + 5, none⟩ = some (Value.string l[i].snap) :=
  ⟨h.cell i hi (f := 0) rfl, h.cell i hi (f := 1) rfl, h.cell i hi (f := 2) rfl, h.cell i hi (f := 3) rfl, h.cell i hi (f := 4) rfl, h.cell i hi (f := 5) rfl⟩
theorem infoHN : (Tryz.prog.info? 67).map (fun i => (i.zero, i.size, i.bytes)) = some (some (.agg #[.int .i64 0, .int .i64 0, .int .i64 0, .int .i64 0, .slice none 0 0, .string ⟨#[]⟩]), 6, 72) := by kernel_rfl
def chL (l : List En) (n : Nat) : List En := (l.take (min (n + 40) l.length)).drop n
theorem chL_len (l : List En) (n : Nat) : (chL l n).length = min (n + 40) l.length - n := by simp [chL]
def restN (base bt : Int) (l : List En) : Nat -> Nat -> List HP
  | 0, _ => []
  | f + 1, n => if n < l.length then ⟨2, termAt base bt (base + (n : Int)) l, 0, base + (n : Int), chL l n, ⟨#[]⟩⟩ :: restN base bt l f (n + 40) else []
theorem restN_done (base bt : Int) (l : List En) (f n : Nat) (h : ¬ n < l.length) : restN base bt l f n = [] := by
  cases f with
  | zero => rfl
  | succ f => simp only [restN, if_neg h]
theorem restN_step (base bt : Int) (l : List En) (f n : Nat) (h : n < l.length) (hf : l.length <= f + n) : ∃ g, f = g + 1 /\ l.length <= g + (n + 40) /\ restN base bt l f n = ⟨2, termAt base bt (base + (n : Int)) l, 0, base + (n : Int), chL l n, ⟨#[]⟩⟩ :: restN base bt l g (n + 40) := by
  cases f with
  | zero => omega
  | succ g => exact ⟨g, rfl, by omega, by simp only [restN, if_pos h]⟩
theorem restN_le (base bt : Int) (l : List En) : ∀ f n, (restN base bt l f n).length <= f
  | 0, _ => by simp [restN]
  | f + 1, n => by
    simp only [restN]
    split
    . have := restN_le base bt l f (n + 40)
      simp only [List.length_cons]; omega
    . simp
theorem term_next {base bt : Int} {l : List En} {n : Nat} (hb : 0 <= base) (hl : (l.length : Int) <= 300 - base) (h : n + 40 < l.length) : termAt base bt (base + ((n + 40 : Nat) : Int)) l = (l[n + 39]'(by omega)).term := by
  have e : base + ((n + 40 : Nat) : Int) - base - 1 = ((n + 39 : Nat) : Int) := by omega
  unfold termAt atN
  rw [if_neg (by omega), if_pos (by omega), e]
  simp only [Int.toNat_natCast]
  exact get_term (by omega)
theorem term_first (base bt : Int) (l : List En) : termAt base bt base l = bt := by unfold termAt; rw [if_pos rfl]
end Go.Proofs.YtaefjifcnoiplaaGreat.Gen
