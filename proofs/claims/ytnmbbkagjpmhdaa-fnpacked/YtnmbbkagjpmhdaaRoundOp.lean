/-
  A region that draws its order inside a round of a loop over a function: what its loads read holds up to its last operation (number z, which waits for all others; where there is none such, z is no operation's number). No condition.
-/
import Derived.Test.YtnmbbkagjpmhdaaLastOp
import Derived.OrdersIn
import Derived.OwnWalkIn
namespace Go.Proofs.Ytnmbbkagjpmhdaa.Gen
set_option linter.unusedVariables false

section
variable {F : Fence} {m : Nat} {P : Program} {ops : Array Oper} {Q : Exit → Act → World → Prop} {md : Region.Mode} {S : World → Prop} {z : Nat}

def noDefer (ops : Array Oper) : Bool := ops.all fun o => match o.op with | .defer _ => false | _ => true
theorem noDefer_spec (h : noDefer ops = true) {i : Nat} {o : Oper} (hi : ops[i]? = some o) : ∀ c, o.op ≠ .defer c := fun c e => by
  have hm : o ∈ ops := Array.mem_of_getElem? hi
  have := Array.all_eq_true'.1 h o hm
  rw [e] at this
  cases this
def lastOf (md : Region.Mode) (ops : Array Oper) (z : Nat) : Bool := decide (ops.size ≤ z) || waitsForAll md ops z
theorem not_last' {i : Nat} {L : Array Bool} (hz : lastOf md ops z = true) (hi : i ∈ Region.ready md ops L) (hne : i ≠ z) : z ∉ Region.ready md ops L := by
  simp only [lastOf, Bool.or_eq_true, decide_eq_true_eq] at hz
  rcases hz with hz | hz
  · intro h
    obtain ⟨_, oz, hoz, _⟩ := mem_ready.1 h
    have := (Array.getElem?_eq_some_iff.1 hoz).1
    omega
  · exact not_last hz hi hne

def YieldsRound (P : Program) (ops : Array Oper) (S : World → Prop) (o : Oper) (v : Value) (a : Act) : Prop := YieldsIf P ops S o v a ∧ ∀ w, o.about P w a.eval = none
theorem YieldsRound.of_same {o : Oper} {v : Value} {a a' : Act} (hy : YieldsRound P ops S o v a) (he : execOp a'.eval o = execOp a.eval o)
    (hw : Region.wanted o (yielded ops a'.tmps) = Region.wanted o (yielded ops a.tmps)) (hb : ∀ w, o.about P w a'.eval = o.about P w a.eval) : YieldsRound P ops S o v a' :=
  ⟨hy.1.of_same he hw, fun w => by rw [hb w]; exact hy.2 w⟩
theorem YieldsRound.wpOpIn {i : Nat} {o : Oper} {v : Value} {a : Act} (hd : ∀ c, o.op ≠ .defer c) (hi : ops[i]? = some o) (hy : YieldsRound P ops S o v a)
    {K : Act → World → Prop} {w : World} (hS : S w) (h : K (a.put o.dst v) w) : wpOpIn F m P ops Q i K a w := by
  unfold Go.wpOpIn
  simp only [hi]
  have hab : ∀ f, o.about P w a.eval = some f → F.fn f := fun f hf => by rw [hy.2 w] at hf; cases hf
  rcases hy.1 with ⟨hw, hv⟩ | ⟨hw, rfl⟩
  · simp only [hw, if_true, Oper.wpIn, Oper.semAt_plain F _ _ hd, hv w hS, Oper.uponIn]; exact ⟨hab, h⟩
  · simp only [hw, Bool.false_eq_true, if_false]; exact ⟨hab, h⟩

theorem wpOpIn_putIf {j : Nat} {oi oj : Oper} {v : Value} (hdj : ∀ c, oj.op ≠ .defer c) (hj : ops[j]? = some oj) (hap : oi.apart ops oj = true)
    (hsi : ∀ cs b, oi.op ≠ .select cs b) (hsj : ∀ cs b, oj.op ≠ .select cs b)
    (hQ : ∀ c a w, Q (.panic c) (a.put oi.dst v) w → Q (.panic c) a w) {K : Act → World → Prop} {a : Act} {w : World}
    (hy : YieldsRound P ops S oi v a) (h : wpOpIn F m P ops Q j K (a.put oi.dst v) w) :
    wpOpIn F m P ops Q j (fun a' w' => YieldsRound P ops S oi v a' ∧ K (a'.put oi.dst v) w') a w := by
  obtain ⟨h1, h2, h3⟩ := Oper.apart_spec hap
  have keep : ∀ (a : Act), YieldsRound P ops S oi v a → ∀ u, YieldsRound P ops S oi v (a.put oj.dst u) := fun a hy u =>
    hy.of_same (execOp_put oi hsi a oj.dst u h3) (wanted_put oi a oj.dst u h3) (fun w => about_put oi w a oj.dst u h3)
  have keepD : ∀ d, YieldsRound P ops S oi v { a with defers := d :: a.defers } := fun d => hy.of_same rfl rfl (fun _ => rfl)
  unfold Go.wpOpIn at *
  simp only [hj] at *
  rw [wanted_put oj a oi.dst v h1, about_put oj w a oi.dst v h1] at h
  split
  · rename_i hw
    simp only [hw, if_true] at h
    unfold Oper.wpIn at *
    rw [about_put oj w a oi.dst v h1] at h
    refine ⟨h.1, ?_⟩
    have h := h.2
    rw [Oper.semAt_plain F _ _ hdj, execOp_put oj hsj a oi.dst v h1] at h
    rw [Oper.semAt_plain F _ _ hdj]
    generalize (execOp a.eval oj).run P w = r at *
    cases r with
    | ok x w' =>
      cases x <;> simp only [Oper.uponIn] at h ⊢
      case value u => exact ⟨keep a hy u, by rw [← Act.put_comm a v u h2]; exact h⟩
      case skip => exact ⟨keep a hy _, by rw [← Act.put_comm a v undef h2]; exact h⟩
      case defer d =>
        refine ⟨keep _ (keepD d) _, ?_⟩
        rw [← Act.put_comm _ v undef h2, ← Act.put_defers]
        exact h
      case enter f args =>
        refine ⟨h.1, CallsIn.mono h.2 fun e w'' he => ?_⟩
        cases e with
        | returned u => exact ⟨keep a hy u, by rw [← Act.put_comm a v u h2]; exact he⟩
        | panicked c => exact hQ _ _ _ he
        | outgrown => exact he
      case row row args => exact ⟨h.1, RowsIn.mono h.2 fun u w'' he => ⟨keep a hy u, by rw [← Act.put_comm a v u h2]; exact he⟩⟩
      case round l f tmps assign body =>
        refine ⟨h.1, RoundIn.mono h.2 fun e w'' he => ?_⟩
        cases e with
        | returned u => exact ⟨keep a hy u, by rw [← Act.put_comm a v u h2]; exact he⟩
        | panicked c => exact hQ _ _ _ he
        | outgrown => exact he
    | halt x w' =>
      cases x <;> simp only [Oper.uponIn] at h ⊢
      case panic u => exact hQ _ _ _ h
  · rename_i hw
    simp only [hw] at h
    exact ⟨h.1, keep a hy _, by rw [← Act.put_comm a v undef h2]; exact h.2⟩

/-- Whatever order is picked, S holds behind each operation but z. -/
def anyRound (F : Fence) (m : Nat) (P : Program) (md : Region.Mode) (ops : Array Oper) (Q : Exit → Act → World → Prop) (S : World → Prop) (z : Nat) : Nat → Array Bool → Act → World → Prop
  | 0, L, a, w => Region.ready md ops L = [] ∧ Q .normal a w
  | n + 1, L, a, w => (Region.ready md ops L = [] → Q .normal a w) ∧
    ∀ i ∈ Region.ready md ops L, Go.wpOpIn F m P ops Q i (fun a' w' => (i = z ∨ S w') ∧ anyRound F m P md ops Q S z n (L.setIfInBounds i true) a' w') a w

theorem any_of_round (n : Nat) : ∀ (L : Array Bool) (a : Act) (w : World), anyRound F m P md ops Q S z n L a w → wpAnyIn F m P md ops Q n L a w := by
  induction n with
  | zero => exact fun _ _ _ h => h
  | succ n ih => exact fun L a w h => ⟨h.1, fun i hi => wpOpIn_mono (fun a' w' g => ih _ a' w' g.2) (h.2 i hi)⟩

theorem round_take {i : Nat} {oi : Oper} {v : Value} (hd : noDefer ops = true) (hz : lastOf md ops z = true) (hi : ops[i]? = some oi) (hs : Region.noSelect ops = true) (hQ : ∀ c a w, Q (.panic c) (a.put oi.dst v) w → Q (.panic c) a w) (hiz : i ≠ z) (n : Nat) :
    ∀ (L : Array Bool) (a : Act) (w : World), Region.free md ops L i = true → i ∈ Region.ready md ops L → YieldsRound P ops S oi v a → S w →
      anyRound F m P md ops Q S z n (L.setIfInBounds i true) (a.put oi.dst v) w → anyRound F m P md ops Q S z (n + 1) L a w := by
  have sel : ∀ (j : Nat) (o : Oper) cs b, ops[j]? = some o → o.op ≠ .select cs b := Region.noSelect_spec hs
  suffices key : ∀ (L : Array Bool) (a : Act) (w : World), (∀ j oj, ops[j]? = some oj → j ≠ i → L.getD j true = false → (∀ e ∈ oj.after, Region.binds md e = true → e.on ≠ i) → oi.apart ops oj = true) →
      i ∈ Region.ready md ops L → YieldsRound P ops S oi v a → S w → anyRound F m P md ops Q S z n (L.setIfInBounds i true) (a.put oi.dst v) w → anyRound F m P md ops Q S z (n + 1) L a w from
    fun L a w hf hr hy hS H => key L a w (Region.free_spec hi hf) hr hy hS H
  induction n with
  | zero =>
    intro L a w _ hr hy hS H
    constructor
    · intro h; rw [h] at hr; exact absurd hr (List.not_mem_nil)
    · intro j hj
      rcases Decidable.em (j = i) with e | e
      · subst e; exact hy.wpOpIn (noDefer_spec hd hi) hi hS ⟨.inr hS, H⟩
      · have g := ready_mono hj e
        rw [H.1] at g
        exact absurd g (List.not_mem_nil)
  | succ n ih =>
    intro L a w hfr hr hy hS H
    constructor
    · intro h; rw [h] at hr; exact absurd hr (List.not_mem_nil)
    · intro j hj
      rcases Decidable.em (j = i) with e | e
      · subst e; exact hy.wpOpIn (noDefer_spec hd hi) hi hS ⟨.inr hS, H⟩
      · obtain ⟨hun, oj, hoj, hwait⟩ := mem_ready.1 hj
        have hjz : j ≠ z := fun h => by subst h; exact not_last' hz hr hiz hj
        have iun := (mem_ready.1 hr).1
        have hno : ∀ d ∈ oj.after, Region.binds md d = true → d.on ≠ i := fun d hd hb q => by
          have g := hwait d hd hb
          rw [q] at g
          rcases Nat.lt_or_ge i L.size with k | k
          · simp [k] at iun g
            rw [iun] at g; cases g
          · simp [Array.getElem?_eq_none k] at g
        have step := wpOpIn_putIf (noDefer_spec hd hoj) hoj (hfr j oj hoj e hun hno) (fun cs b => sel i oi cs b hi) (fun cs b => sel j oj cs b hoj) hQ hy (H.2 j (ready_mono hj e))
        refine wpOpIn_mono (fun a' w' g => ?_) step
        have hS' : S w' := g.2.1.resolve_left hjz
        refine ⟨.inr hS', ih _ a' w' (fun k ok hk hki hu hn => ?_) (ready_mono hr (Ne.symm e)) g.1 hS' ?_⟩
        · refine hfr k ok hk hki ?_ hn
          rcases Decidable.em (j = k) with q | q
          · subst q; exact hun
          · rwa [getD_set_ne true q] at hu
        · have := g.2.2
          rwa [Array.setIfInBounds_comm _ _ (Ne.symm e)] at this

theorem round_taken {i : Nat} {oi : Oper} {v : Value} {n : Nat} {L : Array Bool} {a : Act} {w : World} (hd : noDefer ops = true) (hz : lastOf md ops z = true) (hi : ops[i]? = some oi) (hs : Region.noSelect ops = true) (hiz : i ≠ z)
    (hf : Region.free md ops L i = true) (hr : (Region.ready md ops L).contains i = true) (hQ : ∀ c a w, Q (.panic c) (a.put oi.dst v) w → Q (.panic c) a w) (hy : YieldsIf P ops S oi v a) (hab : ∀ w, oi.about P w a.eval = none) (hS : S w)
    (h : anyRound F m P md ops Q S z n (L.setIfInBounds i true) (a.put oi.dst v) w) : anyRound F m P md ops Q S z (n + 1) L a w :=
  round_take hd hz hi hs hQ hiz n L a w hf (by simpa using hr) ⟨hy, hab⟩ hS h

/-- What is asked of one operation that comes next. -/
abbrev NextR (F : Fence) (m : Nat) (P : Program) (md : Region.Mode) (ops : Array Oper) (Q : Exit → Act → World → Prop) (S : World → Prop) (z n : Nat) (L : Array Bool) (a : Act) (w : World) (i : Nat) (o : Oper) : Prop :=
  ∀ K' : Act → World → Prop, Shut (∀ a w, (i = z ∨ S w) → anyRound F m P md ops Q S z n (L.setIfInBounds i true) a w → K' a w) →
    if Region.wanted o (yielded ops a.tmps) = true then Oper.wpIn F m P o a w K' Q else (∀ f, o.about P w a.eval = some f → F.fn f) ∧ K' (a.put o.dst undef) w
theorem round_next {i : Nat} {o : Oper} {n : Nat} {L : Array Bool} {a : Act} {w : World} (hr : Region.ready md ops L = [i]) (ho : ops[i]? = some o)
    (h : NextR F m P md ops Q S z n L a w i o) : anyRound F m P md ops Q S z (n + 1) L a w := by
  refine ⟨fun h0 => (by rw [hr] at h0; cases h0), fun j hj => ?_⟩
  rw [hr] at hj
  obtain rfl : j = i := by simpa using hj
  exact wpOpIn_step ho (fun K' hK => h K' (fun a w h1 h2 => hK a w ⟨h1, h2⟩))
theorem round_next2 {i j : Nat} {o p : Oper} {n : Nat} {L : Array Bool} {a : Act} {w : World} (hr : Region.ready md ops L = [i, j]) (ho : ops[i]? = some o) (hp : ops[j]? = some p)
    (h : NextR F m P md ops Q S z n L a w i o) (h' : NextR F m P md ops Q S z n L a w j p) : anyRound F m P md ops Q S z (n + 1) L a w := by
  refine ⟨fun h0 => (by rw [hr] at h0; cases h0), fun k hk => ?_⟩
  rw [hr] at hk
  rcases List.mem_cons.1 hk with rfl | hk
  · exact wpOpIn_step ho (fun K' hK => h K' (fun a w h1 h2 => hK a w ⟨h1, h2⟩))
  · obtain rfl : k = j := by simpa using hk
    exact wpOpIn_step hp (fun K' hK => h' K' (fun a w h1 h2 => hK a w ⟨h1, h2⟩))
theorem round_done {L : Array Bool} {a : Act} {w : World} (hr : Region.ready md ops L = []) (h : Q .normal a w) : ∀ n, anyRound F m P md ops Q S z n L a w
  | 0 => ⟨hr, h⟩
  | _ + 1 => ⟨fun _ => h, by rw [hr]; simp⟩
theorem region_round {id : Nat} {a : Act} {w : World} (z : Nat) (S : World → Prop) (hm : P.follows .mixedOrders = true) (h : anyRound F m P .any ops Q S z ops.size (Array.replicate ops.size false) a w.drew) : (Code.region id ops true).wpIn F m P Q a w :=
  wpIn_region_any hm (any_of_round _ _ _ _ h)
end
end Go.Proofs.Ytnmbbkagjpmhdaa.Gen
