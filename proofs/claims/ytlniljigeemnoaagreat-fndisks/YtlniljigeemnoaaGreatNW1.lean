/-
  The program's writer of entries, of a note's body, and of its frame. Condition: at most 1800000 bytes.
-/
import Derived.Test.YtlniljigeemnoaaGreatDrawNR
set_option linter.unusedVariables false
set_option linter.unusedSimpArgs false
set_option maxRecDepth 100000
set_option maxHeartbeats 8000000
namespace Go.Proofs.YtlniljigeemnoaaGreat.Gen
open ChangeShapes WideShapes ChangeAt RowKit Joins Deep Base
def enB (x : En) : List UInt8 := numI x.term ++ cmB x.who x.seq x.op x.a x.b x.c x.key x.text
def ensB (l : List En) : List UInt8 := numI (l.length : Int) ++ l.flatMap enB
def Qfz (kind term vote prev : Int) (l : List En) (snap : ByteArray) : List UInt8 := Qbh [kind, term, vote + 1, prev] ++ (ensB l ++ txtB snap)
def Qgg (L : List UInt8) : List UInt8 := numB L.length ++ (L ++ sumB 4 (sumN L))
structure EnR (x : En) : Prop where
  term : 0 <= x.term /\ x.term <= 2147483647
  cm : CmR x.who x.seq x.op x.a x.b x.c x.key x.text
theorem enB_le {x : En} (h : EnR x) : (enB x).length <= 105 := by
 have h1 := Qbc x.term
 have h2 := cmB_le h.cm
 simp only [enB, List.length_append]
 omega
theorem ensB_le {l : List En} (h : ∀ x ∈ l, EnR x) : (ensB l).length <= 5 + 105 * l.length := by
 have h1 := Qbc (l.length : Int)
 have h2 := Qc4 enB 105 l (fun x hx => enB_le (h x hx))
 simp only [ensB, List.length_append]
 omega
structure Jo (w W : World) (a : Option Addr) (c : Nat) (xs : List UInt8) : Prop where
  bl : Below w.heap.size w W
  own : W.ownsRow w.heap.size 5 1 (.slice a xs.length c) xs.length (flat xs)
theorem Jo.app {w W W1 : World} {a a1 : Option Addr} {c c1 : Nat} {xs ys : List UInt8} (h : Jo w W a c xs) (g : Below W.heap.size W W1) (hy : At W1 a1 ys) (hlen : xs.length + ys.length <= 1000000000) :
 ∃ a2 c2 W2, (Builtin.append_ #[22, 22] 22 #[.slice a xs.length c, .slice a1 ys.length c1]).run Tryz.prog W1 = .ok (.slice a2 (xs ++ ys).length c2) W2 /\ Jo w W2 a2 c2 (xs ++ ys) /\ (∀ k t vs, W.heap.size <= k -> Blk W1 k t vs -> Blk W2 k t vs) := by
 have o1 := Qaq h.own g
 have b1 := via0 g h.bl
 obtain ⟨a2, c2, W2, hr, hown, hg⟩ := Qdu (c' := c1) b1.size o1 hy hlen
 refine ⟨a2, c2, W2, hr, ⟨b1.grown hg b1.size (fun j e => Nat.le_of_not_lt fun q => Qay o1 q e.symm), hown⟩, fun k t vs hk hb => ?_⟩
 exact (hg.block k hb.lt (fun e => by have := Qbw h.own e.symm; omega)).trans hb
def enF (x : En) : Bool := CmdOk.okB x.who x.seq x.op x.a x.b x.c x.key x.text
theorem all_drop (f : En -> Bool) (l : List En) (n : Nat) (hn : n < l.length) : (l.drop n).all f = (f l[n] && (l.drop (n + 1)).all f) := by
 rw [List.drop_eq_getElem_cons hn]; rfl
theorem in_le {x lo hi : Int} (h : inB x lo hi = true) : lo <= x /\ x <= hi := by simpa [inB] using h
end Go.Proofs.YtlniljigeemnoaaGreat.Gen
