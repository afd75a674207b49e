/-
  Which nodes are right, as lists alone; rpcF tells which messages are. No condition.
-/
import Derived.Test.YtkmkldjipihceaaGreatLGet
import Derived.Test.YtkmkldjipihceaaGreatRpcV
set_option linter.unusedVariables false
set_option linter.unusedSimpArgs false
set_option maxRecDepth 100000
set_option maxHeartbeats 8000000
set_option maxRecDepth 100000
set_option maxHeartbeats 8000000
namespace Go.Proofs.YtkmkldjipihceaaGreat.Gen
open ChangeShapes WideShapes ChangeAt RowKit Joins Deep Base
def Qg0 (ln : Int) (ns ps : List Int) : Bool := ns.all (fun z => inB z 1 (ln + 1)) && ps.all (fun z => inB z 0 ln)
def Qda (rpcF : RpP -> Bool) (id : Int) (hs : List RpC) : Bool := hs.all (fun z => rpcF z.p && z.frm == id)
def peerB (rpcF : RpP -> Bool) (ro wi le ke id te vo base bt : Int) (l : List En) (x : KC) (role : Int) (vn nn pn : Nat) (ns ps : List Int) (com : Int) (y : KC) (su : Int) (dn : Nat) (hs : List RpC) (size : Int) : Bool :=
  inB size 1 5 && inB id 0 (size - 1) && Qd2 ro wi le ke te vo base bt l x && decide (vo < size) && inB role 0 2 && decide ((vn : Int) = size) && decide ((nn : Int) = size) && decide ((pn : Int) = size) && Qg0 (Qbv base l) ns ps && Qda rpcF id hs && inB com base (Qbv base l) && Qbp ro wi le ke y && Qgd su dn && decide (hs.length <= 40)
theorem last_in {base bt : Int} {l : List En} (h : logB base bt l = true) : 0 <= Qbv base l /\ Qbv base l <= 300 := by
 simp only [logB, Bool.and_eq_true, decide_eq_true_eq] at h
 obtain ⟨⟨⟨⟨h3, h4⟩, h5⟩, h6⟩, h7⟩ := h
 have h3 := in_le h3
 unfold Qbv
 split
 . exact h3
 . rw [IntKind.wrap_i64]; omega
theorem hard_log {ro wi le ke te vo base bt : Int} {l : List En} {x : KC} (h : Qd2 ro wi le ke te vo base bt l x = true) : logB base bt l = true := by
 simp only [Qd2, Bool.and_eq_true] at h
 exact h.1.1.2
theorem feed_drop {ln : Int} {ns ps : List Int} {n : Nat} (h1 : n < ns.length) (h2 : n < ps.length) : Qg0 ln (ns.drop n) (ps.drop n) = (inB ns[n] 1 (ln + 1) && inB ps[n] 0 ln && Qg0 ln (ns.drop (n + 1)) (ps.drop (n + 1))) := by
 unfold Qg0
 rw [List.drop_eq_getElem_cons h1, List.drop_eq_getElem_cons h2]
 simp only [List.all_cons]
 generalize inB ns[n] 1 (ln + 1) = a
 generalize inB ps[n] 0 ln = b
 cases a<;>cases b<;>simp
theorem hold_drop {rpcF : RpP -> Bool} {id : Int} {hs : List RpC} {n : Nat} (h1 : n < hs.length) : Qda rpcF id (hs.drop n) = (rpcF hs[n].p && hs[n].frm == id && Qda rpcF id (hs.drop (n + 1))) := by
 unfold Qda
 rw [List.drop_eq_getElem_cons h1]
 rfl
end Go.Proofs.YtkmkldjipihceaaGreat.Gen
