/-
  What was read of a keeper fits: its numbers, its counts, each by the bytes that it took. Condition: at most 1048576 bytes.
-/
import Derived.Test.YtjjbbkmedpfenaaGreatRKeep1
import Derived.Test.YtjjbbkmedpfenaaGreatKeepP
namespace Go.Proofs.YtjjbbkmedpfenaaGreat.Gen
open Go.ChangeShapes Go.WideShapes Go.ChangeAt Go.RowKit Go.Joins Go.Deep Base
open Items (It)
set_option linter.unusedVariables false
set_option linter.unusedSimpArgs false

/-- A keeper of this content, as it lies nowhere. -/
def KC.of (x : PK) : KC := ⟨none, 0, x.rs.map (fun p => ⟨p.start, p.next, none, 0, p.its⟩), none, 0, x.ms.map (fun p => ⟨p.row, p.who, p.epoch, p.last, none, 0, p.ms⟩), none, 0, x.gs.map (fun p => ⟨p.gen, none, 0, p.m, none, 0, p.b, none, 0, p.o⟩), x.time, none, 0, x.ds, none, 0, x.ls⟩
theorem KC.of_p (x : PK) : (KC.of x).p = x := by
  have e1 : (KC.of x).rs.map RC.p = x.rs := by
    show (x.rs.map _).map RC.p = x.rs
    rw [List.map_map]
    exact List.map_id _
  have e2 : (KC.of x).ms.map MC.p = x.ms := by
    show (x.ms.map _).map MC.p = x.ms
    rw [List.map_map]
    exact List.map_id _
  have e3 : (KC.of x).gs.map GC.p = x.gs := by
    show (x.gs.map _).map GC.p = x.gs
    rw [List.map_map]
    exact List.map_id _
  show PK.mk _ _ _ _ _ _ = x
  rw [e1, e2, e3]
  rfl
theorem many_all {α : Type} {get : Int → Option (α × Nat)} {Q : α → Prop} (hq : ∀ (i : Nat) x c, get (i : Int) = some (x, c) → Q x) : ∀ (n c : Nat) {xs : List α} {d : Nat}, getMany get n c = some (xs, d) → ∀ x ∈ xs, Q x
  | 0, c, xs, d, h => by
    simp only [getMany, Option.some.injEq, Prod.mk.injEq] at h
    obtain ⟨rfl, rfl⟩ := h
    simp
  | n + 1, c, xs, d, h => by
    unfold getMany at h
    cases hx : get (c : Int) with
    | none => rw [hx] at h; cases h
    | some p =>
    obtain ⟨x, e⟩ := p
    rw [hx] at h
    simp only [] at h
    cases hy : getMany get n e with
    | none => rw [hy] at h; cases h
    | some q =>
    obtain ⟨ys, f⟩ := q
    rw [hy] at h
    simp only [Option.some.injEq, Prod.mk.injEq] at h
    obtain ⟨rfl, rfl⟩ := h
    intro y hy'
    rcases List.mem_cons.1 hy' with rfl | hm
    · exact hq _ _ _ hx
    · exact many_all hq n e hy y hm
theorem many_count {α : Type} {get : Int → Option (α × Nat)} (f : α → Nat) (hf : ∀ (i : Nat) x c, get (i : Int) = some (x, c) → f x + 5 * i ≤ 5 * c) : ∀ (n c : Nat) {xs : List α} {d : Nat}, getMany get n c = some (xs, d) → count f xs + 5 * c ≤ 5 * d
  | 0, c, xs, d, h => by
    simp only [getMany, Option.some.injEq, Prod.mk.injEq] at h
    obtain ⟨rfl, rfl⟩ := h
    simp [count]
  | n + 1, c, xs, d, h => by
    unfold getMany at h
    cases hx : get (c : Int) with
    | none => rw [hx] at h; cases h
    | some p =>
    obtain ⟨x, e⟩ := p
    rw [hx] at h
    simp only [] at h
    cases hy : getMany get n e with
    | none => rw [hy] at h; cases h
    | some q =>
    obtain ⟨ys, g⟩ := q
    rw [hy] at h
    simp only [Option.some.injEq, Prod.mk.injEq] at h
    obtain ⟨rfl, rfl⟩ := h
    have h1 := hf _ _ _ hx
    have h2 := many_count f hf n e hy
    have h3 : count f (x :: ys) = f x + count f ys := by simp [count]
    omega
theorem list_all {α : Type} {l : List UInt8} {get : Int → Option (α × Nat)} {Q : α → Prop} (hq : ∀ (i : Nat) x c, get (i : Int) = some (x, c) → Q x) {i : Nat} {xs : List α} {d : Nat} (h : getList l get (i : Int) = some (xs, d)) : ∀ x ∈ xs, Q x := by
  unfold getList at h
  cases hx : getN l (i : Int) with
  | none => rw [hx] at h; cases h
  | some p =>
  obtain ⟨n, c⟩ := p
  rw [hx] at h
  exact many_all hq n c h
theorem list_count {α : Type} {l : List UInt8} {get : Int → Option (α × Nat)} (f : α → Nat) (hf : ∀ (i : Nat) x c, get (i : Int) = some (x, c) → f x + 5 * i ≤ 5 * c) {i : Nat} {xs : List α} {d : Nat} (h : getList l get (i : Int) = some (xs, d)) : count f xs + 5 * i ≤ 5 * d := by
  unfold getList at h
  cases hx : getN l (i : Int) with
  | none => rw [hx] at h; cases h
  | some p =>
  obtain ⟨n, c⟩ := p
  rw [hx] at h
  have h1 := many_count f hf n c h
  have h2 := getN_le hx
  omega
theorem list_len {α : Type} {l : List UInt8} {get : Int → Option (α × Nat)} (hget : ∀ (i : Nat) x c, get (i : Int) = some (x, c) → i < c ∧ c ≤ l.length) {i : Nat} {xs : List α} {d : Nat} (h : getList l get (i : Int) = some (xs, d)) : i + 1 + xs.length ≤ d ∧ d ≤ l.length := by
  unfold getList at h
  cases hx : getN l (i : Int) with
  | none => rw [hx] at h; cases h
  | some p =>
  obtain ⟨n, c⟩ := p
  rw [hx] at h
  have h2 := getN_le hx
  have h1 := getMany_le hget n c h2.2.2.2.1 h
  omega
theorem i64_nat {n : Nat} (h : n ≤ 2147483647) : I64 (n : Int) := ⟨by omega, by omega⟩
theorem i64_natm {n : Nat} (h : n ≤ 2147483647) : I64 ((n : Int) - 1) := ⟨by omega, by omega⟩
theorem getIt_right {l : List UInt8} (hl : l.length ≤ 1048576) {i : Nat} {x : It} {c : Nat} (h : getIt l (i : Int) = some (x, c)) : x.right := by
  unfold getIt at h
  cases h1 : getN l (i : Int) with
  | none => simp [h1] at h
  | some p1 =>
  obtain ⟨n1, c1⟩ := p1
  cases h2 : getT l (c1 : Int) with
  | none => simp [h1, h2] at h
  | some p2 =>
  obtain ⟨s2, c2⟩ := p2
  cases h3 : getT l (c2 : Int) with
  | none => simp [h1, h2, h3] at h
  | some p3 =>
  obtain ⟨s3, c3⟩ := p3
  cases h4 : getN l (c3 : Int) with
  | none => simp [h1, h2, h3, h4] at h
  | some p4 =>
  obtain ⟨n4, c4⟩ := p4
  cases h5 : getN l (c4 : Int) with
  | none => simp [h1, h2, h3, h4, h5] at h
  | some p5 =>
  obtain ⟨n5, c5⟩ := p5
  simp only [h1, h2, h3, h4, h5, Option.some.injEq, Prod.mk.injEq] at h
  obtain ⟨rfl, rfl⟩ := h
  have k2 := (getT_le h2).2.2.2
  have k3 := (getT_le h3).2.2.2
  exact ⟨i64_nat (getN_le h1).1, i64_nat (getN_le h4).1, i64_nat (getN_le h5).1, by show s2.size ≤ _; omega, by show s3.size ≤ _; omega⟩
def rwQ (b : Nat) (p : PR) : Prop := I64 p.start ∧ I64 p.next ∧ p.its.length ≤ b ∧ ∀ y ∈ p.its, y.right
theorem getRw_q {l : List UInt8} (hl : l.length ≤ 1048576) {i : Nat} {x : PR} {c : Nat} (h : getRw l (i : Int) = some (x, c)) : rwQ l.length x ∧ 2 + x.its.length * 5 + 5 * i ≤ 5 * c := by
  unfold getRw at h
  cases h1 : getN l (i : Int) with
  | none => simp [h1] at h
  | some p1 =>
  obtain ⟨n1, c1⟩ := p1
  cases h2 : getN l (c1 : Int) with
  | none => simp [h1, h2] at h
  | some p2 =>
  obtain ⟨n2, c2⟩ := p2
  cases h3 : getList l (getIt l) (c2 : Int) with
  | none => simp [h1, h2, h3] at h
  | some p3 =>
  obtain ⟨xs, c3⟩ := p3
  simp only [h1, h2, h3, Option.some.injEq, Prod.mk.injEq] at h
  obtain ⟨rfl, rfl⟩ := h
  have k1 := getN_le h1
  have k2 := getN_le h2
  have k3 := list_len (fun i x c h => getIt_le h) h3
  refine ⟨⟨i64_nat k1.1, i64_nat k2.1, by show xs.length ≤ _; omega, list_all (fun i x c h => getIt_right hl h) h3⟩, ?_⟩
  show 2 + xs.length * 5 + 5 * i ≤ 5 * c3
  omega
theorem getMr_q {l : List UInt8} {i : Nat} {x : PM} {c : Nat} (h : getMr l (i : Int) = some (x, c)) : x.ms.length ≤ l.length ∧ 4 + x.ms.length * 2 + 5 * i ≤ 5 * c := by
  unfold getMr at h
  cases h1 : getN l (i : Int) with
  | none => simp [h1] at h
  | some p1 =>
  obtain ⟨n1, c1⟩ := p1
  cases h2 : getN l (c1 : Int) with
  | none => simp [h1, h2] at h
  | some p2 =>
  obtain ⟨n2, c2⟩ := p2
  cases h3 : getN l (c2 : Int) with
  | none => simp [h1, h2, h3] at h
  | some p3 =>
  obtain ⟨n3, c3⟩ := p3
  cases h4 : getN l (c3 : Int) with
  | none => simp [h1, h2, h3, h4] at h
  | some p4 =>
  obtain ⟨n4, c4⟩ := p4
  cases h5 : getList l (getMk l) (c4 : Int) with
  | none => simp [h1, h2, h3, h4, h5] at h
  | some p5 =>
  obtain ⟨xs, c5⟩ := p5
  simp only [h1, h2, h3, h4, h5, Option.some.injEq, Prod.mk.injEq] at h
  obtain ⟨rfl, rfl⟩ := h
  have k1 := getN_le h1
  have k2 := getN_le h2
  have k3 := getN_le h3
  have k4 := getN_le h4
  have k5 := list_len (fun i x c h => getMk_le h) h5
  refine ⟨by show xs.length ≤ _; omega, ?_⟩
  show 4 + xs.length * 2 + 5 * i ≤ 5 * c5
  omega
theorem getGr_q {R : Nat} {l : List UInt8} {i : Nat} {x : PG} {c : Nat} (h : getGr R l (i : Int) = some (x, c)) : (x.m.length ≤ l.length ∧ x.b.length ≤ l.length ∧ x.o.length ≤ l.length) ∧ 1 + x.m.length + x.b.length + x.o.length + 5 * i ≤ 5 * c := by
  unfold getGr at h
  cases h1 : getN l (i : Int) with
  | none => simp [h1] at h
  | some p1 =>
  obtain ⟨n1, c1⟩ := p1
  cases h2 : getN l (c1 : Int) with
  | none => simp [h1, h2] at h
  | some p2 =>
  obtain ⟨n2, c2⟩ := p2
  cases h3 : getMany (getPr l) n2 c2 with
  | none => simp [h1, h2, h3] at h
  | some p3 =>
  obtain ⟨ps, c3⟩ := p3
  cases h4 : getMany (getIn l) R c3 with
  | none => simp [h1, h2, h3, h4] at h
  | some p4 =>
  obtain ⟨os, c4⟩ := p4
  simp only [h1, h2, h3, h4, Option.some.injEq, Prod.mk.injEq] at h
  obtain ⟨rfl, rfl⟩ := h
  have k1 := getN_le h1
  have k2 := getN_le h2
  have k3 := getMany_le (fun i x c h => getPr_le h) n2 c2 k2.2.2.2.1 h3
  have k4 := getMany_le (fun i x c h => getIn_le h) R c3 k3.2.2 h4
  simp only [List.length_map]
  omega
theorem getDl_q {l : List UInt8} (hl : l.length ≤ 1048576) {i : Nat} {x : Int × An} {c : Nat} (h : getDl l (i : Int) = some (x, c)) : x.2.right := by
  unfold getDl at h
  cases h0 : getN l (i : Int) with
  | none => simp [h0] at h
  | some p0 =>
  obtain ⟨n0, c0⟩ := p0
  cases hA : getAn l (c0 : Int) with
  | none => simp [h0, hA] at h
  | some pA =>
  obtain ⟨y, cA⟩ := pA
  simp only [h0, hA, Option.some.injEq, Prod.mk.injEq] at h
  obtain ⟨rfl, rfl⟩ := h
  show y.right
  unfold getAn at hA
  cases h1 : getN l (c0 : Int) with
  | none => simp [h1] at hA
  | some p1 =>
  obtain ⟨n1, c1⟩ := p1
  cases h2 : getN l (c1 : Int) with
  | none => simp [h1, h2] at hA
  | some p2 =>
  obtain ⟨n2, c2⟩ := p2
  cases h3 : getT l (c2 : Int) with
  | none => simp [h1, h2, h3] at hA
  | some p3 =>
  obtain ⟨s3, c3⟩ := p3
  cases h4 : getT l (c3 : Int) with
  | none => simp [h1, h2, h3, h4] at hA
  | some p4 =>
  obtain ⟨s4, c4⟩ := p4
  simp only [h1, h2, h3, h4, Option.some.injEq, Prod.mk.injEq] at hA
  obtain ⟨rfl, rfl⟩ := hA
  have k3 := (getT_le h3).2.2.2
  have k4 := (getT_le h4).2.2.2
  exact ⟨i64_nat (getN_le h1).1, i64_natm (getN_le h2).1, by show s3.size ≤ _; omega, by show s4.size ≤ _; omega⟩
theorem kp_ask {R : Nat} {l : List UInt8} (hl : l.length ≤ 1048576) {i : Nat} {x : PK} {c : Nat} (h : getKp R l (i : Int) = some (x, c)) : KAsk (KC.of x) := by
  unfold getKp at h
  cases h1 : getList l (getRw l) (i : Int) with
  | none => simp [h1] at h
  | some p1 =>
  obtain ⟨rs, c1⟩ := p1
  cases h2 : getList l (getMr l) (c1 : Int) with
  | none => simp [h1, h2] at h
  | some p2 =>
  obtain ⟨ms, c2⟩ := p2
  cases h3 : getList l (getGr R l) (c2 : Int) with
  | none => simp [h1, h2, h3] at h
  | some p3 =>
  obtain ⟨gs, c3⟩ := p3
  cases h4 : getN l (c3 : Int) with
  | none => simp [h1, h2, h3, h4] at h
  | some p4 =>
  obtain ⟨t, c4⟩ := p4
  cases h5 : getMany (getDl l) 4 c4 with
  | none => simp [h1, h2, h3, h4, h5] at h
  | some p5 =>
  obtain ⟨ps, c5⟩ := p5
  simp only [h1, h2, h3, h4, h5, Option.some.injEq, Prod.mk.injEq] at h
  obtain ⟨rfl, rfl⟩ := h
  have k1 := list_len (fun i x c h => getRw_le h) h1
  have k2 := list_len (fun i x c h => getMr_le h) h2
  have k3 := list_len (fun i x c h => getGr_le h) h3
  have k4 := getN_le h4
  have k5 := getMany_le (fun i x c h => getDl_le h) 4 c4 k4.2.2.2.1 h5
  have q1 := list_all (fun i x c h => (getRw_q hl h).1) h1
  have q2 := list_all (fun i x c h => (getMr_q h).1) h2
  have q3 := list_all (fun i x c h => (getGr_q h).1) h3
  have q5 := many_all (fun i x c h => getDl_q hl h) 4 c4 h5
  have n1 := list_count (fun p : PR => 2 + p.its.length * 5) (fun i x c h => (getRw_q hl h).2) h1
  have n2 := list_count (fun p : PM => 4 + p.ms.length * 2) (fun i x c h => (getMr_q h).2) h2
  have n3 := list_count (fun p : PG => 1 + p.m.length + p.b.length + p.o.length) (fun i x c h => (getGr_q h).2) h3
  refine ⟨⟨?_, ?_, ?_, ?_, ?_, ?_, ?_, ?_, ?_, ?_, ?_⟩, ?_, ?_⟩
  · show (rs.map _).length ≤ _; rw [List.length_map]; omega
  · show (ms.map _).length ≤ _; rw [List.length_map]; omega
  · show (gs.map _).length ≤ _; rw [List.length_map]; omega
  · show (ps.map _).length ≤ _; rw [List.length_map]; omega
  · show (ps.map _).length ≤ _; rw [List.length_map]; omega
  · intro y hy
    obtain ⟨p, hp, rfl⟩ := List.mem_map.1 hy
    have := (q1 p hp).2.2.1
    show p.its.length ≤ _
    omega
  · intro y hy
    obtain ⟨p, hp, rfl⟩ := List.mem_map.1 hy
    have := q2 p hp
    show p.ms.length ≤ _
    omega
  · intro y hy
    obtain ⟨p, hp, rfl⟩ := List.mem_map.1 hy
    have := q3 p hp
    show p.m.length ≤ _ ∧ p.b.length ≤ _ ∧ p.o.length ≤ _
    omega
  · have e : count cR (KC.of ⟨rs, ms, gs, (t : Int), ps.map Prod.fst, ps.map Prod.snd⟩).rs = count (fun p : PR => 2 + p.its.length * 5) rs := (count_p (fun p : PR => (⟨p.start, p.next, none, 0, p.its⟩ : RC)) cR rs).symm
    rw [e]; omega
  · have e : count cM (KC.of ⟨rs, ms, gs, (t : Int), ps.map Prod.fst, ps.map Prod.snd⟩).ms = count (fun p : PM => 4 + p.ms.length * 2) ms := (count_p (fun p : PM => (⟨p.row, p.who, p.epoch, p.last, none, 0, p.ms⟩ : MC)) cM ms).symm
    rw [e]; omega
  · have e : count cG (KC.of ⟨rs, ms, gs, (t : Int), ps.map Prod.fst, ps.map Prod.snd⟩).gs = count (fun p : PG => 1 + p.m.length + p.b.length + p.o.length) gs := (count_p (fun p : PG => (⟨p.gen, none, 0, p.m, none, 0, p.b, none, 0, p.o⟩ : GC)) cG gs).symm
    rw [e]; omega
  · intro y hy
    obtain ⟨p, hp, rfl⟩ := List.mem_map.1 hy
    have h := q1 p hp
    exact ⟨h.1, h.2.1, by have := h.2.2.1; show p.its.length ≤ _; omega, h.2.2.2⟩
  · intro y hy
    obtain ⟨p, hp, rfl⟩ := List.mem_map.1 hy
    exact q5 p hp
/-- What bytes tell of a keeper. -/
def ofK (ro wi le ke : Int) (l : List UInt8) : Option PK := match getKp ro.toNat l 0 with | none => none | some (x, c) => if c = l.length ∧ keepB ro wi le ke (KC.of x) = true then some x else none
theorem ofK_ask {ro wi le ke : Int} {l : List UInt8} (hl : l.length ≤ 1048576) {x : PK} (h : ofK ro wi le ke l = some x) : KAsk (KC.of x) := by
  unfold ofK at h
  cases h1 : getKp ro.toNat l 0 with
  | none => rw [h1] at h; cases h
  | some p =>
  obtain ⟨y, c⟩ := p
  rw [h1] at h
  simp only [] at h
  split at h
  · cases h
    exact kp_ask (i := 0) hl h1
  · cases h
theorem ofK_set {ro wi le ke : Int} {l : List UInt8} (h : setB ro wi le ke = false) : ofK ro wi le ke l = none := by
  unfold ofK
  cases h1 : getKp ro.toNat l 0 with
  | none => rfl
  | some p =>
  obtain ⟨y, c⟩ := p
  simp only []
  rw [if_neg]
  rintro ⟨_, h2⟩
  simp [keepB, h] at h2
end Go.Proofs.YtjjbbkmedpfenaaGreat.Gen
