/-
  A region that draws its order, gone through in the order of the text: what is left of it behind a guard that is false, in one step. No condition.
-/
import Derived.Test.YtkmkldjipihceaaGreatDkV
set_option linter.unusedVariables false
set_option linter.unusedSimpArgs false
set_option maxRecDepth 100000
set_option maxHeartbeats 8000000
set_option maxRecDepth 100000
set_option maxHeartbeats 8000000
namespace Go.Proofs.YtkmkldjipihceaaGreat
open Gen Base Go.ChangeShapes Go.WideShapes Go.ChangeAt Go.RowKit Go.Joins Go.Deep
def zTo (n k : Nat) : Array Bool := (List.replicate k true ++ List.replicate (n - k) false).toArray
theorem zTo_getD (n k j : Nat) (hk : k <= n) (hj : j < n) (d : Bool) : (zTo n k).getD j d = decide (j < k) := by
 have hs : j < (zTo n k).size := by simp [zTo]; omega
 rw [Array.getD, dif_pos hs]
 show (zTo n k)[j]'hs = _
 simp only [zTo, List.getElem_toArray]
 by_cases h : j < k
 . rw [List.getElem_append_left (by simpa using h)]; simp [h]
 . rw [List.getElem_append_right (by simpa using h)]; simp [h]
theorem zTo_set (n k : Nat) (hk : k < n) : (zTo n k).setIfInBounds k true = zTo n (k + 1) := by
 apply Array.ext_getElem?
 intro i
 rw [Array.getElem?_setIfInBounds]
 simp only [zTo, List.getElem?_toArray, List.size_toArray, List.length_append, List.length_replicate]
 by_cases h : k = i
 . subst h
   rw [if_pos rfl, if_pos (by omega), List.getElem?_append_left (by simp)]
   simp
 . rw [if_neg h]
   by_cases h1 : i < k
   . rw [List.getElem?_append_left (by simpa using h1), List.getElem?_append_left (by simp; omega)]
     simp [h1, show i < k + 1 by omega]
   . rw [List.getElem?_append_right (by simp; omega), List.getElem?_append_right (by simp; omega)]
     simp only [List.length_replicate, List.getElem?_replicate]
     by_cases h2 : i < n
     . rw [if_pos (by omega), if_pos (by omega)]
     . rw [if_neg (by omega), if_neg (by omega)]
def zSeq (md : Region.Mode) (ops : Array Oper) (n : Nat) : Bool := Region.noSelect ops && (List.range n).all fun k => Region.free md ops (zTo n k) k && (Region.ready md ops (zTo n k)).contains k
def zVal (f : Operand -> Value) : Op -> Option Value
  | .move x => some (f x)
  | .assign x => some (f x)
  | .pick c x y => match f c with | .bool b => some (if b then f x else f y) | _ => none
  | _ => none
theorem zVal_run {P : Program} {f : Operand -> Value} {o : Oper} {v : Value} {w : World} (h : zVal f o.op = some v) : (execOp f o).run P w = .ok (.value v) w := by
 unfold execOp
 cases ho : o.op<;>simp only [ho, zVal] at h ⊢<;>try (simp at h; done)
 . simp at h; subst h; rfl
 . simp at h; subst h; rfl
 . split at h
   . rename_i b hb
     simp at h; subst h
     simp [hb, asBool]
   . simp at h
def zRun (ops : Array Oper) : List Nat -> Act -> Option Act
  | [], a => some a
  | i :: is, a => match ops[i]? with
    | none => none
    | some o => match Region.wanted o (yielded ops a.tmps) with
      | false => zRun ops is (a.put o.dst undef)
      | true => match zVal a.eval o.op with
        | some v => zRun ops is (a.put o.dst v)
        | none => none
def zF : Value -> Bool
  | .bool false => true
  | _ => false
theorem zF_is {v : Value} (h : zF v = true) : v = .bool false := by
 unfold zF at h
 split at h
 . rfl
 . simp at h
def zRes (ops : Array Oper) (k n t : Nat) (a : Act) : Bool := match zRun ops (List.range' k (n - k)) a with
  | some a' => zF (a'.tmps.getD t undef) && a'.defers.isEmpty
  | none => false
section
variable {P : Program} {md : Region.Mode} {ops : Array Oper} {Q : Go.Exit -> Act -> World -> Prop} {S : World -> Prop} {w : World}
theorem zRest {n : Nat} (hn : ops.size = n) (hs : zSeq md ops n = true) (hS : S w) {a' : Act} (hq : Q .normal a' w) : ∀ (m k : Nat) (a : Act), k + m = n -> zRun ops (List.range' k m) a = some a' -> wpAnyH P md ops (NoPanic Q) S m (zTo n k) a w
 | 0, k, a, hk, h => by
  simp [zRun] at h
  subst h
  refine wpAnyH_done ?_ (NoPanic.normal hq) _
  unfold Region.ready
  rw [List.filter_eq_nil_iff]
  intro i hi
  have hi' : i < n := by rw [← hn]; simpa using hi
  rw [zTo_getD n k i (by omega) hi' true]
  simp [show i < k by omega]
 | m + 1, k, a, hk, h => by
  have hkn : k < n := by omega
  rw [List.range'_succ] at h
  have hall := hs
  simp only [zSeq, Bool.and_eq_true, List.all_eq_true, List.mem_range] at hall
  obtain ⟨hse, hall⟩ := hall
  obtain ⟨hf, hr⟩ := hall k hkn
  have ho : ∃ o, ops[k]? = some o := ⟨ops[k]'(by omega), Array.getElem?_eq_getElem (by omega)⟩
  obtain ⟨o, ho⟩ := ho
  simp only [zRun, ho] at h
  have hset := zTo_set n k hkn
  cases hw : Region.wanted o (yielded ops a.tmps) with
  | false =>
   simp only [hw] at h
   refine wpAnyH_take ho hse hf hr (fun _ _ _ h => h) (.inr ⟨hw, rfl⟩) hS ?_
   rw [hset]
   exact zRest hn hs hS hq m (k + 1) _ (by omega) h
  | true =>
   simp only [hw] at h
   cases hv : zVal a.eval o.op with
   | none => simp [hv] at h
   | some v =>
    simp only [hv] at h
    refine wpAnyH_take ho hse hf hr (fun _ _ _ h => h) (.inl ⟨hw, fun w _ => zVal_run hv⟩) hS ?_
    rw [hset]
    exact zRest hn hs hS hq m (k + 1) _ (by omega) h
theorem zNo (k n t : Nat) {fuel : Nat} {listed : Array Bool} {a : Act} (hs : zSeq md ops n = true) (h : ∀ a' : Act, a'.tmps.getD t undef = .bool false -> a'.defers = [] -> Q .normal a' w) (hS : S w := by assumption) (hn : ops.size = n := by rfl) (hk : k <= n := by decide) (hf : fuel = n - k := by rfl) (hl : listed = zTo n k := by kernel_rfl) (hc : zRes ops k n t a = true := by kernel_rfl) : wpAnyH P md ops (NoPanic Q) S fuel listed a w := by
 subst hf hl
 unfold zRes at hc
 split at hc
 . rename_i a' ha
   rw [Bool.and_eq_true] at hc
   exact zRest hn hs hS (h a' (zF_is hc.1) (by simpa using hc.2)) (n - k) k a (by omega) ha
 . simp at hc
theorem zBeg (n : Nat) {id : Nat} {a : Act} (hm : P.follows .mixedOrders = true) (hS : S w.drew) (hs : zSeq .any ops n = true)
 (h : Hid (zSeq .any ops n = true) -> S w.drew -> wpAnyH P .any ops Q S ops.size (Array.replicate ops.size false) a w.drew) : (Code.region id ops true).wp P Q a w :=
 wp_region_held_drew hm hS (h hs)
end
end Go.Proofs.YtkmkldjipihceaaGreat
