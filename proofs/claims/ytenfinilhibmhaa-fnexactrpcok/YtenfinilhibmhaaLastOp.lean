/-
  A region that draws its order, and whose last operation (a store, as a rule) waits for all others: what its loads read need hold up to that operation alone, so that it may write the very cells that they read. No condition.
-/
import Derived.Deep.RegionHeld3
namespace Go.Proofs.Ytenfinilhibmhaa.Gen
set_option linter.unusedVariables false

section
variable {P : Program} {ops : Array Oper} {Q : Exit → Act → World → Prop} {md : Region.Mode} {S : World → Prop} {z : Nat}

/-- Number z waits for every other operation. -/
def waitsForAll (md : Region.Mode) (ops : Array Oper) (z : Nat) : Bool :=
  match ops[z]? with
  | none => false
  | some o => (List.range ops.size).all fun j => j == z || o.after.any fun e => Region.binds md e && e.on == j

/-- While another one is still to come, z cannot come. -/
theorem not_last {i : Nat} {L : Array Bool} (hz : waitsForAll md ops z = true) (hi : i ∈ Region.ready md ops L) (hne : i ≠ z) : z ∉ Region.ready md ops L := fun h => by
  obtain ⟨hu, oi, hoi, _⟩ := mem_ready.1 hi
  obtain ⟨_, oz, hoz, hall⟩ := mem_ready.1 h
  have hlt : i < ops.size := (Array.getElem?_eq_some_iff.1 hoi).1
  simp only [waitsForAll, hoz, List.all_eq_true, List.mem_range, Bool.or_eq_true, beq_iff_eq] at hz
  have h1 := (hz i hlt).resolve_left hne
  obtain ⟨e, he, hb⟩ := Array.any_eq_true'.1 h1
  simp only [Bool.and_eq_true, beq_iff_eq] at hb
  have h2 := hall e he hb.1
  rw [hb.2] at h2
  rcases Nat.lt_or_ge i L.size with h' | h'
  · simp [h'] at hu h2
    rw [hu] at h2; cases h2
  · simp [Array.getElem?_eq_none h'] at h2

/-- Whatever order is picked, S holds behind each operation but z. -/
def anyUpTo (P : Program) (md : Region.Mode) (ops : Array Oper) (Q : Exit → Act → World → Prop) (S : World → Prop) (z : Nat) : Nat → Array Bool → Act → World → Prop
  | 0, L, a, w => Region.ready md ops L = [] ∧ Q .normal a w
  | n + 1, L, a, w => (Region.ready md ops L = [] → Q .normal a w) ∧
    ∀ i ∈ Region.ready md ops L, wpOp P ops Q i (fun a' w' => (i = z ∨ S w') ∧ anyUpTo P md ops Q S z n (L.setIfInBounds i true) a' w') a w

theorem any_of_upTo (n : Nat) : ∀ (L : Array Bool) (a : Act) (w : World), anyUpTo P md ops Q S z n L a w → wpAny P md ops Q n L a w := by
  induction n with
  | zero => exact fun _ _ _ h => h
  | succ n ih => exact fun L a w h => ⟨h.1, fun i hi => wpOp_mono (fun a' w' g => ih _ a' w' g.2) (h.2 i hi)⟩

theorem upTo_take {i : Nat} {oi : Oper} {v : Value} (hz : waitsForAll md ops z = true) (hi : ops[i]? = some oi) (hs : Region.noSelect ops = true) (hQ : ∀ c a w, Q (.panic c) (a.put oi.dst v) w → Q (.panic c) a w) (hiz : i ≠ z) (n : Nat) :
    ∀ (L : Array Bool) (a : Act) (w : World), Region.free md ops L i = true → i ∈ Region.ready md ops L → YieldsIf P ops S oi v a → S w →
      anyUpTo P md ops Q S z n (L.setIfInBounds i true) (a.put oi.dst v) w → anyUpTo P md ops Q S z (n + 1) L a w := by
  have sel : ∀ (j : Nat) (o : Oper) cs b, ops[j]? = some o → o.op ≠ .select cs b := Region.noSelect_spec hs
  suffices key : ∀ (L : Array Bool) (a : Act) (w : World), (∀ j oj, ops[j]? = some oj → j ≠ i → L.getD j true = false → (∀ e ∈ oj.after, Region.binds md e = true → e.on ≠ i) → oi.apart ops oj = true) →
      i ∈ Region.ready md ops L → YieldsIf P ops S oi v a → S w → anyUpTo P md ops Q S z n (L.setIfInBounds i true) (a.put oi.dst v) w → anyUpTo P md ops Q S z (n + 1) L a w from
    fun L a w hf hr hy hS H => key L a w (Region.free_spec hi hf) hr hy hS H
  induction n with
  | zero =>
    intro L a w _ hr hy hS H
    constructor
    · intro h; rw [h] at hr; exact absurd hr (List.not_mem_nil)
    · intro j hj
      rcases Decidable.em (j = i) with e | e
      · subst e; exact hy.wpOp hi hS ⟨.inr hS, H⟩
      · have g := ready_mono hj e
        rw [H.1] at g
        exact absurd g (List.not_mem_nil)
  | succ n ih =>
    intro L a w hfr hr hy hS H
    constructor
    · intro h; rw [h] at hr; exact absurd hr (List.not_mem_nil)
    · intro j hj
      rcases Decidable.em (j = i) with e | e
      · subst e; exact hy.wpOp hi hS ⟨.inr hS, H⟩
      · obtain ⟨hun, oj, hoj, hwait⟩ := mem_ready.1 hj
        have hjz : j ≠ z := fun h => by subst h; exact not_last hz hr hiz hj
        have iun := (mem_ready.1 hr).1
        have hno : ∀ d ∈ oj.after, Region.binds md d = true → d.on ≠ i := fun d hd hb q => by
          have g := hwait d hd hb
          rw [q] at g
          rcases Nat.lt_or_ge i L.size with k | k
          · simp [k] at iun g
            rw [iun] at g; cases g
          · simp [Array.getElem?_eq_none k] at g
        have step := wpOp_putIf hoj (hfr j oj hoj e hun hno) (fun cs b => sel i oi cs b hi) (fun cs b => sel j oj cs b hoj) hQ hy (H.2 j (ready_mono hj e))
        refine wpOp_mono (fun a' w' g => ?_) step
        have hS' : S w' := g.2.1.resolve_left hjz
        refine ⟨.inr hS', ih _ a' w' (fun k ok hk hki hu hn => ?_) (ready_mono hr (Ne.symm e)) g.1 hS' ?_⟩
        · refine hfr k ok hk hki ?_ hn
          rcases Decidable.em (j = k) with q | q
          · subst q; exact hun
          · rwa [getD_set_ne true q] at hu
        · have := g.2.2
          rwa [Array.setIfInBounds_comm _ _ (Ne.symm e)] at this

theorem upTo_taken {i : Nat} {oi : Oper} {v : Value} {n : Nat} {L : Array Bool} {a : Act} {w : World} (hz : waitsForAll md ops z = true) (hi : ops[i]? = some oi) (hs : Region.noSelect ops = true) (hiz : i ≠ z)
    (hf : Region.free md ops L i = true) (hr : (Region.ready md ops L).contains i = true) (hQ : ∀ c a w, Q (.panic c) (a.put oi.dst v) w → Q (.panic c) a w) (hy : YieldsIf P ops S oi v a) (hS : S w)
    (h : anyUpTo P md ops Q S z n (L.setIfInBounds i true) (a.put oi.dst v) w) : anyUpTo P md ops Q S z (n + 1) L a w :=
  upTo_take hz hi hs hQ hiz n L a w hf (by simpa using hr) hy hS h

/-- One operation alone may come next. -/
theorem upTo_next {i : Nat} {o : Oper} {n : Nat} {L : Array Bool} {a : Act} {w : World} (hr : Region.ready md ops L = [i]) (ho : ops[i]? = some o)
    (h : ∀ K' : Act → World → Prop, Shut (∀ a w, (i = z ∨ S w) → anyUpTo P md ops Q S z n (L.setIfInBounds i true) a w → K' a w) → if Region.wanted o (yielded ops a.tmps) = true then Oper.wp P o a w K' Q else K' (a.put o.dst undef) w) :
    anyUpTo P md ops Q S z (n + 1) L a w := by
  refine ⟨fun h0 => (by rw [hr] at h0; cases h0), fun j hj => ?_⟩
  rw [hr] at hj
  obtain rfl : j = i := by simpa using hj
  exact wpOp_step ho (fun K' hK => h K' (fun a w h1 h2 => hK a w ⟨h1, h2⟩))
/-- Either of two may come next. -/
theorem upTo_next2 {i j : Nat} {o p : Oper} {n : Nat} {L : Array Bool} {a : Act} {w : World} (hr : Region.ready md ops L = [i, j]) (ho : ops[i]? = some o) (hp : ops[j]? = some p)
    (h : ∀ K' : Act → World → Prop, Shut (∀ a w, (i = z ∨ S w) → anyUpTo P md ops Q S z n (L.setIfInBounds i true) a w → K' a w) → if Region.wanted o (yielded ops a.tmps) = true then Oper.wp P o a w K' Q else K' (a.put o.dst undef) w)
    (h' : ∀ K' : Act → World → Prop, Shut (∀ a w, (j = z ∨ S w) → anyUpTo P md ops Q S z n (L.setIfInBounds j true) a w → K' a w) → if Region.wanted p (yielded ops a.tmps) = true then Oper.wp P p a w K' Q else K' (a.put p.dst undef) w) :
    anyUpTo P md ops Q S z (n + 1) L a w := by
  refine ⟨fun h0 => (by rw [hr] at h0; cases h0), fun k hk => ?_⟩
  rw [hr] at hk
  rcases List.mem_cons.1 hk with rfl | hk
  · exact wpOp_step ho (fun K' hK => h K' (fun a w h1 h2 => hK a w ⟨h1, h2⟩))
  · obtain rfl : k = j := by simpa using hk
    exact wpOp_step hp (fun K' hK => h' K' (fun a w h1 h2 => hK a w ⟨h1, h2⟩))
theorem upTo_done {L : Array Bool} {a : Act} {w : World} (hr : Region.ready md ops L = []) (h : Q .normal a w) : ∀ n, anyUpTo P md ops Q S z n L a w
  | 0 => ⟨hr, h⟩
  | _ + 1 => ⟨fun _ => h, by rw [hr]; simp⟩
theorem region_upTo {id : Nat} {a : Act} {w : World} (z : Nat) (S : World → Prop) (hm : P.follows .mixedOrders = true) (h : anyUpTo P .any ops Q S z ops.size (Array.replicate ops.size false) a w.drew) : (Code.region id ops true).wp P Q a w :=
  wp_region_any hm (any_of_upTo _ _ _ _ h)
end
end Go.Proofs.Ytenfinilhibmhaa.Gen
