/-
  A region that draws its order, and whose last operation (a store, as a rule) waits for all others: what its loads read need hold up to that operation alone, so that it may write the very cells that they read. No condition.
-/
import Derived.Deep.RegionHeld3
set_option linter.unusedVariables false
set_option linter.unusedSimpArgs false
set_option maxRecDepth 100000
set_option maxHeartbeats 8000000
namespace Go.Proofs.YtddijnmdeabjbaaGreat.Gen
section
variable {P : Program} {ops : Array Oper} {Q : Exit -> Act -> World -> Prop} {md : Region.Mode} {S : World -> Prop} {z : Nat}
def Qat (md : Region.Mode) (ops : Array Oper) (z : Nat) : Bool :=
  match ops[z]? with
  | none => false
  | some o => (List.range ops.size).all fun j => j == z || o.after.any fun e => Region.binds md e && e.on == j
theorem not_last {i : Nat} {L : Array Bool} (hz : Qat md ops z = true) (hi : i ∈ Region.ready md ops L) (hne : i ≠ z) : z ∉ Region.ready md ops L := fun h => by
 obtain ⟨hu, oi, hoi, _⟩ := mem_ready.1 hi
 obtain ⟨_, oz, hoz, hall⟩ := mem_ready.1 h
 have hlt : i < ops.size := (Array.getElem?_eq_some_iff.1 hoi).1
 simp only [Qat, hoz, List.all_eq_true, List.mem_range, Bool.or_eq_true, beq_iff_eq] at hz
 have h1 := (hz i hlt).resolve_left hne
 obtain ⟨e, he, hb⟩ := Array.any_eq_true'.1 h1
 simp only [Bool.and_eq_true, beq_iff_eq] at hb
 have h2 := hall e he hb.1
 rw [hb.2] at h2
 rcases Nat.lt_or_ge i L.size with h' | h'
 . simp [h'] at hu h2
   rw [hu] at h2; cases h2
 . simp [Array.getElem?_eq_none h'] at h2
def Qa4 (P : Program) (md : Region.Mode) (ops : Array Oper) (Q : Exit -> Act -> World -> Prop) (S : World -> Prop) (z : Nat) : Nat -> Array Bool -> Act -> World -> Prop
  | 0, L, a, w => Region.ready md ops L = [] /\ Q .normal a w
  | n + 1, L, a, w => (Region.ready md ops L = [] -> Q .normal a w) /\
    ∀ i ∈ Region.ready md ops L, wpOp P ops Q i (fun a' w' => (i = z ∨ S w') /\ Qa4 P md ops Q S z n (L.setIfInBounds i true) a' w') a w
theorem upTo_take {i : Nat} {oi : Oper} {v : Value} (hz : Qat md ops z = true) (hi : ops[i]? = some oi) (hs : Region.noSelect ops = true) (hQ : ∀ c a w, Q (.panic c) (a.put oi.dst v) w -> Q (.panic c) a w) (hiz : i ≠ z) (n : Nat) :
 ∀ (L : Array Bool) (a : Act) (w : World), Region.free md ops L i = true -> i ∈ Region.ready md ops L -> YieldsIf P ops S oi v a -> S w ->
  Qa4 P md ops Q S z n (L.setIfInBounds i true) (a.put oi.dst v) w -> Qa4 P md ops Q S z (n + 1) L a w := by
 have sel : ∀ (j : Nat) (o : Oper) cs b, ops[j]? = some o -> o.op ≠ .select cs b := Region.noSelect_spec hs
 suffices key : ∀ (L : Array Bool) (a : Act) (w : World), (∀ j oj, ops[j]? = some oj -> j ≠ i -> L.getD j true = false -> (∀ e ∈ oj.after, Region.binds md e = true -> e.on ≠ i) -> oi.apart ops oj = true) ->
  i ∈ Region.ready md ops L -> YieldsIf P ops S oi v a -> S w -> Qa4 P md ops Q S z n (L.setIfInBounds i true) (a.put oi.dst v) w -> Qa4 P md ops Q S z (n + 1) L a w from
  fun L a w hf hr hy hS H => key L a w (Region.free_spec hi hf) hr hy hS H
 induction n with
 | zero =>
  intro L a w _ hr hy hS H
  constructor
  . intro h; rw [h] at hr; exact absurd hr (List.not_mem_nil)
  . intro j hj
    rcases Decidable.em (j = i) with e | e
    . subst e; exact hy.wpOp hi hS ⟨.inr hS, H⟩
    . have g := ready_mono hj e
      rw [H.1] at g
      exact absurd g (List.not_mem_nil)
 | succ n ih =>
  intro L a w hfr hr hy hS H
  constructor
  . intro h; rw [h] at hr; exact absurd hr (List.not_mem_nil)
  . intro j hj
    rcases Decidable.em (j = i) with e | e
    . subst e; exact hy.wpOp hi hS ⟨.inr hS, H⟩
    . obtain ⟨hun, oj, hoj, hwait⟩ := mem_ready.1 hj
      have hjz : j ≠ z := fun h => by subst h; exact not_last hz hr hiz hj
      have iun := (mem_ready.1 hr).1
      have hno : ∀ d ∈ oj.after, Region.binds md d = true -> d.on ≠ i := fun d hd hb q => by
       have g := hwait d hd hb
       rw [q] at g
       rcases Nat.lt_or_ge i L.size with k | k
       . simp [k] at iun g
         rw [iun] at g; cases g
       . simp [Array.getElem?_eq_none k] at g
      have step := wpOp_putIf hoj (hfr j oj hoj e hun hno) (fun cs b => sel i oi cs b hi) (fun cs b => sel j oj cs b hoj) hQ hy (H.2 j (ready_mono hj e))
      refine wpOp_mono (fun a' w' g => ?_) step
      have hS' : S w' := g.2.1.resolve_left hjz
      refine ⟨.inr hS', ih _ a' w' (fun k ok hk hki hu hn => ?_) (ready_mono hr (Ne.symm e)) g.1 hS' ?_⟩
      . refine hfr k ok hk hki ?_ hn
        rcases Decidable.em (j = k) with q | q
        . subst q; exact hun
        . rwa [getD_set_ne true q] at hu
      . have := g.2.2
        rwa [Array.setIfInBounds_comm _ _ (Ne.symm e)] at this
theorem Qb2 {i : Nat} {oi : Oper} {v : Value} {n : Nat} {L : Array Bool} {a : Act} {w : World} (hz : Qat md ops z = true) (hi : ops[i]? = some oi) (hs : Region.noSelect ops = true) (hiz : i ≠ z)
 (hf : Region.free md ops L i = true) (hr : (Region.ready md ops L).contains i = true) (hQ : ∀ c a w, Q (.panic c) (a.put oi.dst v) w -> Q (.panic c) a w) (hy : YieldsIf P ops S oi v a) (hS : S w)
 (h : Qa4 P md ops Q S z n (L.setIfInBounds i true) (a.put oi.dst v) w) : Qa4 P md ops Q S z (n + 1) L a w :=
 upTo_take hz hi hs hQ hiz n L a w hf (by simpa using hr) hy hS h
end
end Go.Proofs.YtddijnmdeabjbaaGreat.Gen
