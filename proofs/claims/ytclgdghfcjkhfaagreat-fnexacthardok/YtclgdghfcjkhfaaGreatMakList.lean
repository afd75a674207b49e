/-
  Lists of makers, each with its list of marks: how they lie, and what the laws' to, sz, eq and mark functions of them do; the argument opened. No condition but that there are at most 1048576.
-/
import Derived.Test.YtclgdghfcjkhfaaGreatMakers
import Derived.Test.YtclgdghfcjkhfaaGreatGen
namespace Go.Proofs.YtclgdghfcjkhfaaGreat.Gen
open Go.ChangeShapes Go.WideShapes Go.ChangeAt Go.RowKit Go.Joins Go.Deep Base
set_option linter.unusedVariables false

/-- A maker as it lies in a list: its marks lie elsewhere. -/
structure MC where
  row : Int
  who : Int
  epoch : Int
  last : Int
  A : Option Addr
  cap : Nat
  ms : List Mk

instance : Inhabited MC := ⟨⟨0, 0, 0, 0, none, 0, []⟩⟩
instance : Cel MC where
  k := 5
  cs x := [.int .i64 x.row, .int .i64 x.who, .int .i64 x.epoch, .int .i64 x.last, .slice x.A x.ms.length x.cap]
  len _ := rfl
  one x u hu := by simp at hu; rcases hu with rfl | rfl | rfl | rfl | rfl <;> rfl

/-- A maker's content. -/
structure PM where
  row : Int
  who : Int
  epoch : Int
  last : Int
  ms : List Mk
def MC.p (x : MC) : PM := ⟨x.row, x.who, x.epoch, x.last, x.ms⟩
def MC.right (x : MC) : Prop := I64 x.row ∧ I64 x.who ∧ I64 x.epoch ∧ I64 x.last ∧ x.ms.length ≤ 9223372036854775807 ∧ ∀ y ∈ x.ms, y.right
/-- The marks of each lie where it leads. -/
def Each (w : World) (l : List MC) : Prop := ∀ x ∈ l, At w x.A x.ms
theorem Each.below {w w' : World} {l : List MC} (h : Each w l) (hw : Below w.heap.size w w') : Each w' l := fun x hx => (h x hx).below hw
def MC.bk (x : MC) : Nat := match x.A with | some a => a.block | none => 0
/-- .. each in a block of its own, of N on, which may be written. -/
def Each.Own (N : Nat) (w : World) (l : List MC) : Prop :=
  (∀ x ∈ l, x.A = some ⟨x.bk, 0, none⟩ ∧ N ≤ x.bk ∧ x.bk < w.heap.size ∧ In w x.bk 0 x.ms ∧ w.there x.bk 0 (x.ms.length * 2)) ∧ l.Pairwise (fun x y => x.bk < y.bk)
theorem Each.Own.below {N : Nat} {w w' : World} {l : List MC} (h : Each.Own N w l) (hw : Below w.heap.size w w') : Each.Own N w' l :=
  ⟨fun x hx => by obtain ⟨h1, h2, h3, h4, h5⟩ := h.1 x hx; exact ⟨h1, h2, Nat.lt_of_lt_of_le h3 hw.size, h4.below h3 hw, there_below h5 h3 hw⟩, h.2⟩
theorem Each.Own.set {N : Nat} {w : World} {l : List MC} (h : Each.Own N w l) (b o : Nat) (v : Value) (hb : b < N) : Each.Own N (w.setCell ⟨b, o, none⟩ v) l :=
  ⟨fun x hx => by obtain ⟨h1, h2, h3, h4, h5⟩ := h.1 x hx; exact ⟨h1, h2, by simpa using h3, h4.set _ _ (by show b ≠ x.bk; omega), there_set h5 _ _ _⟩, h.2⟩
theorem Each.Own.each {N : Nat} {w : World} {l : List MC} (h : Each.Own N w l) : Each w l := fun x hx => by
  obtain ⟨h1, h2, h3, h4, h5⟩ := h.1 x hx; exact .inr ⟨_, _, h1, h3, h4⟩

theorem In.getMC {w : World} {b o : Nat} {l : List MC} (h : In w b o l) (i : Nat) (hi : i < l.length) :
    w.cell? ⟨b, o + i * 5, none⟩ = some (.int .i64 l[i].row) ∧ w.cell? ⟨b, o + i * 5 + 1, none⟩ = some (.int .i64 l[i].who) ∧ w.cell? ⟨b, o + i * 5 + 2, none⟩ = some (.int .i64 l[i].epoch) ∧
      w.cell? ⟨b, o + i * 5 + 3, none⟩ = some (.int .i64 l[i].last) ∧ w.cell? ⟨b, o + i * 5 + 4, none⟩ = some (.slice l[i].A l[i].ms.length l[i].cap) :=
  ⟨h.cell i hi (f := 0) rfl, h.cell i hi (f := 1) rfl, h.cell i hi (f := 2) rfl, h.cell i hi (f := 3) rfl, h.cell i hi (f := 4) rfl⟩

theorem infoMC : (Tryz.prog.info? 118).map (fun i => (i.zero, i.size, i.bytes)) = some (some (.agg #[.int .i64 0, .int .i64 0, .int .i64 0, .int .i64 0, .slice none 0 0]), 5, 56) := by kernel_rfl

def szM (l : List MC) : Nat := l.length + (l.map (fun x => x.ms.length)).sum
theorem sum_snoc (l : List MC) (n : Nat) (hn : n < l.length) : ((l.take (n + 1)).map (fun x => x.ms.length)).sum = ((l.take n).map (fun x => x.ms.length)).sum + l[n].ms.length := by
  rw [List.take_succ_eq_append_getElem hn, List.map_append, List.sum_append]; rfl
theorem sum_le (l : List MC) (n : Nat) : ((l.take n).map (fun x => x.ms.length)).sum ≤ (l.map (fun x => x.ms.length)).sum := by
  have e : (l.map (fun x => x.ms.length)).sum = ((l.take n).map (fun x => x.ms.length)).sum + ((l.drop n).map (fun x => x.ms.length)).sum := by
    rw [← List.sum_append, ← List.map_append, List.take_append_drop]
  omega
theorem len_le_sum (l : List MC) : ∀ x ∈ l, x.ms.length ≤ (l.map (fun x => x.ms.length)).sum := by
  induction l with
  | nil => simp
  | cons a l ih =>
    intro x hx
    rcases List.mem_cons.1 hx with rfl | hx
    · simp
    · have := ih x hx; simp; omega

set_option maxRecDepth 100000 in
set_option maxHeartbeats 1000000 in
theorem szMakerS_any (A : Option Addr) (cap : Nat) (l : List MC) (hl : l.length ≤ 9223372036854775807) (hr : ∀ x ∈ l, x.ms.length ≤ 9223372036854775807) (left : Int) (h0 : 0 ≤ left) (h1 : left ≤ 1048576) (w : World) (hA : At w A l) :
    Calls Tryz.prog 39 #[.slice A l.length cap, .int .i64 left] w fun e w' => (∃ r : Int, e = .returned (.int .i64 r) ∧ (r < 0 ∨ (0 ≤ r ∧ r = left - (szM l : Int)))) ∧ Below w.heap.size w w' := by
  have HA := hidP hA
  have Hr := hidP hr
  clear hA hr
  by_cases h : left < (l.length : Int)
  · have g : left - (l.length : Int) < 0 := by omega
    go_enter Tryz.func39, Tryz.ntmps39
    go_wp2
    go_ret
    exact ⟨⟨-1, rfl, .inl (by omega)⟩, Below.refl _ _⟩
  · have g : ¬ left - (l.length : Int) < 0 := by omega
    go_enter Tryz.func39, Tryz.ntmps39
    go_wp2
    go_loopw [1, 5] (fun q i w' => ∃ (n : Nat) (z : Int), i = .int .i64 (n : Int) ∧ q = .int .i64 z ∧ n ≤ l.length ∧ 0 ≤ z ∧ z ≤ 1048576 ∧ Hid (z = left - (l.length : Int) - ((((l.take n).map (fun x => x.ms.length)).sum : Nat) : Int)) ∧ Below w.heap.size w w') (fun _ i _ => l.length - (intOf i).toNat)
    case atStart => exact ⟨0, _, rfl, rfl, by omega, by omega, by omega, by simp [Hid], Below.refl _ _⟩
    case round =>
      obtain ⟨n, z, rfl, rfl, hn, hz0, hz1, hz, hbl⟩ := hrel
      by_cases hlt : n < l.length
      · obtain ⟨b, o, rfl, hbs, hIn⟩ : ∃ b o, A = some ⟨b, o, none⟩ ∧ b < w.heap.size ∧ In w b o l := by
          rcases HA.out with h | h
          · subst h; simp at hlt
          · exact h
        obtain ⟨c0, c1, c2, c3, c4⟩ := (hIn.below hbs hbl).getMC n hlt
        have hms := Hr.out _ (List.getElem_mem hlt)
        have hsn := hidP (sum_snoc l n hlt)
        by_cases hs : z < (l[n].ms.length : Int)
        · go_wp2_with (go_at_call 97; refine (szMaker_any _ _ _ _ _ _ _ hms z hz0 hz1 _).mono ?_; rw [if_pos hs]; rintro e w1 ⟨rfl, g1⟩)
          go_ret
          exact ⟨⟨-1, rfl, .inl (by omega)⟩, via0 g1 hbl⟩
        · have hp : ¬ z - (l[n].ms.length : Int) < 0 := by omega
          go_wp2_with (go_at_call 97; refine (szMaker_any _ _ _ _ _ _ _ hms z hz0 hz1 _).mono ?_; rw [if_neg hs]; rintro e w1 ⟨rfl, g1⟩)
          have hz' := hz.out
          have hsn' := hsn.out
          exact ⟨⟨n + 1, z - (l[n].ms.length : Int), by go_num, rfl, by omega, by omega, by omega, by show _ = _; rw [hsn']; omega, via0 g1 hbl⟩, by simp [intOf]; omega⟩
      · have e : l.take n = l := List.take_of_length_le (by omega)
        go_wp2
        go_ret
        have hz' := hz.out
        rw [e] at hz'
        exact ⟨⟨z, rfl, .inr ⟨hz0, by rw [hz', szM]; omega⟩⟩, hbl⟩

/-- A record stored behind those that are there. -/
theorem store_snoc {α : Type} [Cel α] {w : World} {b m : Nat} {pre : List α} {x : α} (hin : In w b 0 pre) (hth : w.there b 0 (m * Cel.k α)) (hn : pre.length < m) :
    In (w.setCells b (pre.length * Cel.k α) (Cel.cs x)) b 0 (pre ++ [x]) ∧ (w.setCells b (pre.length * Cel.k α) (Cel.cs x)).there b 0 (m * Cel.k α) := by
  have hlen : (flat pre).length = pre.length * Cel.k α := flat_length _
  refine ⟨?_, World.there_setCells hth _ _ _⟩
  unfold In
  rw [flat_append, flat_one]
  refine rangeAt_append (World.rangeAt_setCells_apart hin _ _ _ (.inr (.inl (by rw [hlen]; omega)))) ?_
  rw [hlen, Nat.zero_add]
  refine World.rangeAt_setCells_same _ _ _ _ fun j hj => ?_
  have hj' : j < Cel.k α := by rwa [Cel.len] at hj
  have hlt : pre.length * Cel.k α + j < m * Cel.k α := by have : (pre.length + 1) * Cel.k α ≤ m * Cel.k α := Nat.mul_le_mul_right _ hn; rw [Nat.add_mul] at this; omega
  have := hth (pre.length * Cel.k α + j) hlt
  rwa [Nat.zero_add] at this

/-- What toMakerS makes. -/
structure NewL (b : Nat) (w : World) (l l' : List MC) : Prop where
  lt : b < w.heap.size
  lst : In w b 0 l'
  th : w.there b 0 (l.length * 5)
  own : Each.Own (b + 1) w l'
  same : l'.map MC.p = l.map MC.p
theorem NewL.below {b : Nat} {w w' : World} {l l' : List MC} (h : NewL b w l l') (g : Below w.heap.size w w') : NewL b w' l l' :=
  ⟨Nat.lt_of_lt_of_le h.lt g.size, h.lst.below h.lt g, there_below h.th h.lt g, h.own.below g, h.same⟩
theorem NewL.len {b : Nat} {w : World} {l l' : List MC} (h : NewL b w l l') : l'.length = l.length := by have := congrArg List.length h.same; simpa using this
theorem NewL.at {b : Nat} {w : World} {l l' : List MC} (h : NewL b w l l') : At w (some ⟨b, 0, none⟩) l' := .inr ⟨b, 0, rfl, h.lt, h.lst⟩

set_option maxRecDepth 100000 in
set_option maxHeartbeats 1000000 in
theorem toMakerS_any (A : Option Addr) (cap : Nat) (l : List MC) (hl : l.length ≤ 1048576) (hr : ∀ x ∈ l, x.ms.length ≤ 1048576) (w : World) (hA : At w A l) (hE : Each w l) :
    Calls Tryz.prog 51 #[.slice A l.length cap] w fun e w' => e = .returned (.slice (some ⟨w.heap.size, 0, none⟩) l.length l.length) ∧ Below w.heap.size w w' ∧ ∃ l', NewL w.heap.size w' l l' := by
  have HA := hidP hA
  have HE := hidP hE
  have Hr := hidP hr
  clear hA hE hr
  have hmk := make_els (P := Tryz.prog) Tryz.underlying44 infoMC (by omega) l.length hl
  go_enter Tryz.func51, Tryz.ntmps51
  go_wp2
  go_loopw [4] (fun i w' => ∃ (n : Nat) (pre : List MC), i = .int .i64 (n : Int) ∧ n ≤ l.length ∧ Below w.heap.size w w' ∧ w.heap.size < w'.heap.size ∧ Hid (pre.length = n) ∧ Hid (In w' w.heap.size 0 pre) ∧ Hid (w'.there w.heap.size 0 (l.length * 5)) ∧ Hid (Each.Own (w.heap.size + 1) w' pre) ∧ Hid (pre.map MC.p = (l.take n).map MC.p)) (fun i _ => l.length - (intOf i).toNat)
  case atStart => exact ⟨0, [], rfl, by omega, by repeat (first | exact Below.refl _ _ | assumption | refine via0 (by assumption) ?_ | refine Below.drew ?_ | refine alloc0 ?_ _), by simp, rfl, In.nil _ _ _, made_there w _ _ _ _, ⟨by simp, List.Pairwise.nil⟩, by simp [Hid]⟩
  case round =>
    obtain ⟨n, pre, rfl, hn, hbl, hsz, hpl, hin, hth, hown, hsame⟩ := hrel
    by_cases hlt : n < l.length
    · obtain ⟨b, o, rfl, hbs, hIn⟩ : ∃ b o, A = some ⟨b, o, none⟩ ∧ b < w.heap.size ∧ In w b o l := by
        rcases HA.out with h | h
        · subst h; simp at hlt
        · exact h
      obtain ⟨c0, c1, c2, c3, c4⟩ := (hIn.below hbs hbl).getMC n hlt
      have hms := Hr.out _ (List.getElem_mem hlt)
      have hat := hidP ((HE.out _ (List.getElem_mem hlt)).below hbl)
      obtain ⟨⟨v0, d0⟩, f0⟩ := there_at (f := 0) hth.out hlt (by omega)
      obtain ⟨⟨v1, d1⟩, f1⟩ := there_at (f := 1) hth.out hlt (by omega)
      obtain ⟨⟨v2, d2⟩, f2⟩ := there_at (f := 2) hth.out hlt (by omega)
      obtain ⟨⟨v3, d3⟩, f3⟩ := there_at (f := 3) hth.out hlt (by omega)
      obtain ⟨⟨v4, d4⟩, f4⟩ := there_at (f := 4) hth.out hlt (by omega)
      simp only [Nat.zero_add, Nat.add_zero] at d0 f0 d1 f1 d2 f2 d3 f3 d4 f4
      go_wp2_with (go_at_call 105; refine (toMaker_any _ _ _ _ _ _ _ hms _ hat.out).mono ?_; rintro e w1 ⟨bx, rfl, g1, hbx, hbx', hix, htx⟩; obtain ⟨k1, m1⟩ := bcell g1; have s1 := g1.size; have hix := hidP hix; have htx := hidP htx)
      have hpl' := hpl.out
      have hst := store_snoc (x := (⟨l[n].row, l[n].who, l[n].epoch, l[n].last, some ⟨bx, 0, none⟩, l[n].ms.length, l[n].ms⟩ : MC)) (hin.out.below hsz g1) (there_below hth.out hsz g1) (by omega)
      have ho1 := hown.out.below g1
      have hnew : Each.Own (w.heap.size + 1) w1 (pre ++ [(⟨l[n].row, l[n].who, l[n].epoch, l[n].last, some ⟨bx, 0, none⟩, l[n].ms.length, l[n].ms⟩ : MC)]) := by
        refine ⟨fun x hx => ?_, ?_⟩
        · rcases List.mem_append.1 hx with h | h
          · exact ho1.1 x h
          · simp only [List.mem_singleton] at h
            subst h
            exact ⟨rfl, by show w.heap.size + 1 ≤ bx; omega, hbx', hix.out, htx.out⟩
        · refine List.pairwise_append.2 ⟨ho1.2, List.pairwise_singleton _ _, fun x hx y hy => ?_⟩
          simp only [List.mem_singleton] at hy
          subst hy
          have := (hown.out.1 x hx).2.2.1
          show x.bk < bx
          omega
      rw [hpl'] at hst
      refine ⟨⟨n + 1, _, by go_num, by omega, ?_, by simp; omega, ?_, hst.1, hst.2, ?_, ?_⟩, by simp [intOf]; omega⟩
      · exact ((((((via0 g1 hbl).setCell (Nat.le_refl _) _).setCell (Nat.le_refl _) _).setCell (Nat.le_refl _) _).setCell (Nat.le_refl _) _).setCell (Nat.le_refl _) _)
      · show _ = _; simp [hpl']
      · exact ((((hnew.set _ _ _ (by omega)).set _ _ _ (by omega)).set _ _ _ (by omega)).set _ _ _ (by omega)).set _ _ _ (by omega)
      · show _ = _
        rw [List.map_append, hsame.out, List.take_succ_eq_append_getElem hlt, List.map_append]
        rfl
    · have e : l.take n = l := List.take_of_length_le (by omega)
      go_wp2
      go_ret
      exact ⟨rfl, hbl, pre, hsz, hin.out, hth.out, hown.out, by rw [hsame.out, e]⟩

set_option maxRecDepth 100000 in
set_option maxHeartbeats 1000000 in
theorem eqMakerS_same (A A' : Option Addr) (cap cap' : Nat) (l l' : List MC) (hl : l.length ≤ 9223372036854775807) (hr : ∀ x ∈ l, x.ms.length ≤ 9223372036854775807) (hsame : l'.map MC.p = l.map MC.p) (w : World) (hA : At w A l) (hE : Each w l) (hA' : At w A' l') (hE' : Each w l') :
    Calls Tryz.prog 74 #[.slice A l.length cap, .slice A' l.length cap'] w fun e w' => e = .returned (.bool true) ∧ Below w.heap.size w w' := by
  have HA := hidP hA
  have HE := hidP hE
  have HA' := hidP hA'
  have HE' := hidP hE'
  have Hr := hidP hr
  have HS := hidP hsame
  have HLL : Hid (l'.length = l.length) := by have := congrArg List.length hsame; show _ = _; simpa using this
  clear hA hE hA' hE' hr hsame
  go_enter Tryz.func74, Tryz.ntmps74
  go_wp2
  go_loopw [5] (fun i w' => ∃ (n : Nat), i = .int .i64 (n : Int) ∧ n ≤ l.length ∧ Below w.heap.size w w') (fun i _ => l.length - (intOf i).toNat)
  case atStart => exact ⟨0, rfl, by omega, Below.refl _ _⟩
  case round =>
    obtain ⟨n, rfl, hn, hbl⟩ := hrel
    by_cases hlt : n < l.length
    · have hll := HLL.out
      obtain ⟨b, o, rfl, hbs, hin⟩ : ∃ b o, A = some ⟨b, o, none⟩ ∧ b < w.heap.size ∧ In w b o l := by
        rcases HA.out with h | h
        · subst h; simp at hlt
        · exact h
      obtain ⟨b', o', rfl, hbs', hin'⟩ : ∃ b o, A' = some ⟨b, o, none⟩ ∧ b < w.heap.size ∧ In w b o l' := by
        rcases HA'.out with h | h
        · subst h; simp at hll; omega
        · exact h
      have hp : (l'[n]'(by omega)).p = l[n].p := by
        have h1 : (l'.map MC.p)[n]'(by simp; omega) = (l.map MC.p)[n]'(by simpa using hlt) := by simp only [HS.out]
        simpa using h1
      obtain ⟨c0, c1, c2, c3, c4⟩ := (hin.below hbs hbl).getMC n hlt
      obtain ⟨d0, d1, d2, d3, d4⟩ := (hin'.below hbs' hbl).getMC n (by omega)
      have hx := (HE.out _ (List.getElem_mem hlt)).below hbl
      have hx' := (HE'.out _ (List.getElem_mem (show n < l'.length by omega))).below hbl
      have hmsl := Hr.out _ (List.getElem_mem hlt)
      rw [show (l'[n]'(by omega)).row = l[n].row from congrArg PM.row hp] at d0
      rw [show (l'[n]'(by omega)).who = l[n].who from congrArg PM.who hp] at d1
      rw [show (l'[n]'(by omega)).epoch = l[n].epoch from congrArg PM.epoch hp] at d2
      rw [show (l'[n]'(by omega)).last = l[n].last from congrArg PM.last hp] at d3
      rw [show (l'[n]'(by omega)).ms = l[n].ms from congrArg PM.ms hp] at d4 hx'
      generalize (l'[n]'(by omega)).A = aa at d4 hx'
      generalize (l'[n]'(by omega)).cap = cc at d4
      generalize l[n] = x at c0 c1 c2 c3 c4 d0 d1 d2 d3 d4 hx hx' hmsl
      obtain ⟨row, who, epoch, last, xA, xc, ms⟩ := x
      simp only at c0 c1 c2 c3 c4 d0 d1 d2 d3 d4 hx hx' hmsl
      have hx := hidP hx
      have hx' := hidP hx'
      clear hp hll
      have hb1 : b < wr.heap.size := Nat.lt_of_lt_of_le hbs hbl.size
      have hb2 : b' < wr.heap.size := Nat.lt_of_lt_of_le hbs' hbl.size
      have hi0 : (0 : Int) ≤ (n : Int) := by omega
      have hi1 : (n : Int) < (l.length : Int) := by omega
      go_wp2
      go_region_held3 (fun w' => w'.cell? ⟨b, o + n * 5, none⟩ = some (.int .i64 row) ∧ w'.cell? ⟨b, o + n * 5 + 1, none⟩ = some (.int .i64 who) ∧ w'.cell? ⟨b, o + n * 5 + 2, none⟩ = some (.int .i64 epoch) ∧ w'.cell? ⟨b, o + n * 5 + 3, none⟩ = some (.int .i64 last) ∧ w'.cell? ⟨b, o + n * 5 + 4, none⟩ = some (.slice xA ms.length xc) ∧
          w'.cell? ⟨b', o' + n * 5, none⟩ = some (.int .i64 row) ∧ w'.cell? ⟨b', o' + n * 5 + 1, none⟩ = some (.int .i64 who) ∧ w'.cell? ⟨b', o' + n * 5 + 2, none⟩ = some (.int .i64 epoch) ∧ w'.cell? ⟨b', o' + n * 5 + 3, none⟩ = some (.int .i64 last) ∧ w'.cell? ⟨b', o' + n * 5 + 4, none⟩ = some (.slice aa ms.length cc))
        (first | (go_split_ands; refine ⟨?_, ?_, ?_, ?_, ?_, ?_, ?_, ?_, ?_, ?_⟩ <;> first | assumption | exact (k1 _ _ hb1).trans (by assumption) | exact (k1 _ _ hb2).trans (by assumption)) | go_keep)
        (first
          | (go_at_call 119; refine (eqMaker_same row who epoch last xA aa xc cc ms hmsl _ (hx.out.below (Below.drew (Below.refl _ _))) (hx'.out.below (Below.drew (Below.refl _ _)))).mono ?_; rintro e w1 ⟨rfl, g1⟩; obtain ⟨k1, m1⟩ := bcell g1))
      all_goals
        go_wp2
        exact ⟨⟨n + 1, by go_num, by omega, via0 g1 hbl.drew⟩, by simp [intOf]; omega⟩
    · go_wp2
      go_ret
      exact ⟨rfl, hbl⟩

/-- What lies in a list that is being marked: of place n on as it was, and each may be written. -/
structure Mkg (b n : Nat) (w : World) (l : List MC) : Prop where
  lt : b < w.heap.size
  th : w.there b 0 (l.length * 5)
  sl : ∀ i (h : i < l.length), n ≤ i → w.cell? ⟨b, i * 5 + 4, none⟩ = some (.slice l[i].A l[i].ms.length l[i].cap)
  ow : ∀ i (h : i < l.length), n ≤ i → l[i].A = some ⟨l[i].bk, 0, none⟩ ∧ b < l[i].bk ∧ l[i].bk < w.heap.size ∧ w.there l[i].bk 0 (l[i].ms.length * 2)
theorem Mkg.of {b : Nat} {w : World} {l l' : List MC} (h : NewL b w l l') : Mkg b 0 w l' :=
  ⟨h.lt, by rw [h.len]; exact h.th, fun i hi _ => by have := (h.lst.getMC i hi).2.2.2.2; rwa [Nat.zero_add] at this, fun i hi _ => by obtain ⟨h1, h2, h3, h4, h5⟩ := h.own.1 _ (List.getElem_mem hi); exact ⟨h1, by omega, h3, h5⟩⟩
theorem Mkg.set {b n : Nat} {w : World} {l : List MC} (h : Mkg b n w l) (i f : Nat) (v : Value) (hi : i < n ∨ (i = n ∧ f < 4)) (hf : f < 5) : Mkg b n (w.setCell ⟨b, i * 5 + f, none⟩ v) l :=
  ⟨by simpa using h.lt, there_set h.th _ _ _, fun j hj hn => by rw [World.cell?_setCell_other (h := fun e => by have := congrArg Addr.off e; simp only at this; omega)]; exact h.sl j hj hn,
    fun j hj hn => by obtain ⟨h1, h2, h3, h4⟩ := h.ow j hj hn; exact ⟨h1, h2, by simpa using h3, there_set h4 _ _ _⟩⟩
theorem Mkg.only {b n : Nat} {w w' : World} {l : List MC} (h : Mkg b n w l) (hn : n < l.length) (hp : l.Pairwise (fun x y => x.bk < y.bk)) (k : Only l[n].bk w w') : Mkg b (n + 1) w' l := by
  have hb := (h.ow n hn (Nat.le_refl _)).2.1
  refine ⟨Nat.lt_of_lt_of_le h.lt k.size, there_only h.th k h.lt (by omega), fun j hj hnj => ?_, fun j hj hnj => ?_⟩
  · rw [k.cell (p := ⟨b, j * 5 + 4, none⟩) h.lt (by show b ≠ _; omega)]; exact h.sl j hj (by omega)
  · obtain ⟨h1, h2, h3, h4⟩ := h.ow j hj (by omega)
    have hlt : l[n].bk < l[j].bk := List.pairwise_iff_getElem.1 hp n j hn hj (by omega)
    exact ⟨h1, h2, Nat.lt_of_lt_of_le h3 k.size, there_only h4 k h3 (by omega)⟩

set_option maxRecDepth 100000 in
set_option maxHeartbeats 1000000 in
theorem markMakerS_any (b cap : Nat) (l : List MC) (hl : l.length ≤ 1048576) (hs : (l.map (fun x => x.ms.length)).sum ≤ 1048576) (hp : l.Pairwise (fun x y => x.bk < y.bk)) (w : World) (hM : Mkg b 0 w l) :
    Calls Tryz.prog 91 #[.slice (some ⟨b, 0, none⟩) l.length cap, .int .i64 1] w fun e w' => (∃ r : Int, e = .returned (.int .i64 r) ∧ 0 ≤ r) ∧ Off (b :: l.map MC.bk) w w' := by
  have HM := hidP hM
  have Hp := hidP hp
  clear hM hp
  go_enter Tryz.func91, Tryz.ntmps91
  go_wp2
  go_loopw [1, 5] (fun kk i w' => ∃ (n : Nat) (z : Int), i = .int .i64 (n : Int) ∧ kk = .int .i64 z ∧ n ≤ l.length ∧ 1 ≤ z ∧ z ≤ 8000000 ∧ Hid (z = 1 + (n : Int) * 4 + ((((l.take n).map (fun x => x.ms.length)).sum : Nat) : Int) * 2) ∧ Hid (Off (b :: l.map MC.bk) w w') ∧ Hid (Mkg b n w' l)) (fun _ i _ => l.length - (intOf i).toNat)
  case atStart => exact ⟨0, 1, rfl, rfl, by omega, by omega, by omega, by simp [Hid], Off.refl _ _, HM.out⟩
  case round =>
    obtain ⟨n, z, rfl, rfl, hn, hz1, hz2, hz, ho, hm⟩ := hrel
    by_cases hlt : n < l.length
    · have hth := hm.out.th
      obtain ⟨⟨v0, d0⟩, f0⟩ := there_at (f := 0) hth hlt (by omega)
      obtain ⟨⟨v1, d1⟩, f1⟩ := there_at (f := 1) hth hlt (by omega)
      obtain ⟨⟨v2, d2⟩, f2⟩ := there_at (f := 2) hth hlt (by omega)
      obtain ⟨⟨v3, d3⟩, f3⟩ := there_at (f := 3) hth hlt (by omega)
      have d4 := hm.out.sl n hlt (Nat.le_refl _)
      simp only [Nat.zero_add, Nat.add_zero] at d0 f0 d1 f1 d2 f2 d3 f3
      obtain ⟨h1, h2, h3, h4⟩ := hm.out.ow n hlt (Nat.le_refl _)
      have hsn := hidP (sum_snoc l n hlt)
      have hsl := sum_le l (n + 1)
      have hm4 := hidP ((((hm.out.set n 0 (.int .i64 z) (.inr ⟨rfl, by omega⟩) (by omega)).set n 1 (.int .i64 (z + 1)) (.inr ⟨rfl, by omega⟩) (by omega)).set n 2 (.int .i64 (z + 1 + 1)) (.inr ⟨rfl, by omega⟩) (by omega)).set n 3 (.int .i64 (z + 1 + 1 + 1)) (.inr ⟨rfl, by omega⟩) (by omega))
      have hz' := hz.out
      have hsn' := hsn.out
      have hbd : z + 1 + 1 + 1 + 1 + (l[n].ms.length : Int) * 2 ≤ 8000000 := by omega
      have hq := hm4.out.ow n hlt (Nat.le_refl _)
      have hq3 := hidP hq.2.2.1
      have hq4 := hidP hq.2.2.2
      have hms : l[n].ms.length ≤ 2000000 := by omega
      rw [h1] at d4
      clear hz' hsn' hsl h3 h4 hq hth
      go_wp2_with (go_at_call 144; refine (markMkS_any _ _ _ _ _ (by omega) (by omega) hms _ hq3.out hq4.out).mono ?_; rintro e w1 ⟨rfl, k1, i1, t1⟩)
      have hz' := hz.out
      have hsn' := hsn.out
      refine ⟨⟨n + 1, z + 1 + 1 + 1 + 1 + (l[n].ms.length : Int) * 2, by go_num, rfl, by omega, by omega, by omega, by show _ = _; rw [hsn']; omega, ?_, hm4.out.only hlt Hp.out k1⟩, by simp [intOf]; omega⟩
      have hbm : l[n].bk ∈ b :: l.map MC.bk := List.mem_cons_of_mem _ (List.mem_map.2 ⟨_, List.getElem_mem hlt, rfl⟩)
      have o1 : ∀ (W : World) (i : Nat) (v : Value), Off (b :: l.map MC.bk) w W → Off (b :: l.map MC.bk) w (W.setCell ⟨b, i, none⟩ v) := fun W i v h =>
        ⟨h.os, h.tape, h.output, by simpa using h.size, fun k hk hb => (Below.heap_setCell W ⟨b, i, none⟩ v k (fun e => hb (by simp [e]))).trans (h.block k hk hb)⟩
      have o4 := o1 _ (n * 5 + 3) (.int .i64 (z + 1 + 1 + 1)) (o1 _ (n * 5 + 2) (.int .i64 (z + 1 + 1)) (o1 _ (n * 5 + 1) (.int .i64 (z + 1)) (o1 _ (n * 5) (.int .i64 z) ho.out)))
      exact (o4.trans (Off.of_only k1)).mono (fun x hx => by rcases List.mem_append.1 hx with h | h; exact h; simp only [List.mem_singleton] at h; rw [h]; exact hbm)
    · go_wp2
      go_ret
      exact ⟨⟨z, rfl, by omega⟩, ho.out⟩

theorem cellsMC : Tryz.prog.cellsOf 157 = 5 := by kernel_rfl
theorem openMC {H : Type} {enc : TypeId × Value → H} {w : World} {base n : Nat} {spare : Nat → Bool} {held : Bool} {a : Addr} {cs : List Value} {y : DataW H × List MemPlace}
    (h1 : w.cells? base a 5 = some cs) (h2 : DataW.trod enc Tryz.prog w base spare held n 157 cs = some y) :
    ∃ x : MC, (x.right ∧ At w x.A x.ms) ∧ a.spot = none ∧ a.block < w.heap.size ∧ ∀ j v, (Cel.cs x)[j]? = some v → w.cell? ⟨a.block, a.off + j, none⟩ = some v := by
  obtain ⟨_, hlen, hc⟩ := World.cells?_some h1
  match cs, hlen with
  | [c0, c1, c2, c3, c4], _ =>
    obtain ⟨m, hf⟩ := fields_at Tryz.underlying157 (by kernel_rfl) h2
    obtain ⟨y0, g0⟩ := hf 0 _ rfl _ rfl
    obtain ⟨y1, g1⟩ := hf 1 _ rfl _ rfl
    obtain ⟨y2, g2⟩ := hf 2 _ rfl _ rfl
    obtain ⟨y3, g3⟩ := hf 3 _ rfl _ rfl
    obtain ⟨y4, g4⟩ := hf 4 _ rfl _ rfl
    obtain ⟨row, e0, _, w0⟩ := DataW.trod_int Tryz.underlying3 g0
    obtain ⟨who, e1, _, w1⟩ := DataW.trod_int Tryz.underlying3 g1
    obtain ⟨epoch, e2, _, w2⟩ := DataW.trod_int Tryz.underlying3 g2
    obtain ⟨last, e3, _, w3⟩ := DataW.trod_int Tryz.underlying3 g3
    simp at e0 e1 e2 e3
    subst e0 e1 e2 e3
    have q0 := hc 0 (by omega)
    have hsp : a.spot = none := by
      cases hs : a.spot with
      | none => rfl
      | some s => exfalso; simp [Addr.add, World.cell?, hs] at q0; split at q0 <;> simp at q0
    have hlt : a.block < w.heap.size := by
      rw [show a.add 0 = a from rfl] at q0
      unfold World.cell? at q0
      cases hh : w.heap[a.block]? with
      | none => simp [hh] at q0
      | some ob => exact (Array.getElem?_eq_some_iff.1 hh).1
    obtain ⟨A, cap, l, rfl, hl, hR, hat⟩ : ∃ (A : Option Addr) (cap : Nat) (l : List Mk), c4 = .slice A l.length cap ∧ l.length ≤ 9223372036854775807 ∧ (∀ x ∈ l, x.right) ∧ At w A l := by
      rcases open_slice Tryz.underlying155 g4 with ⟨e2, _⟩ | ⟨a, len, cap, m, n', D, Pl, e2, _, hl, hm, hmm, _, hx⟩
      · simp at e2
        subst e2
        exact ⟨none, 0, [], rfl, by simp, by simp, .inl rfl⟩
      · simp at e2
        subst e2
        have hle : len ≤ m := by rw [hmm]; split <;> omega
        rw [cellsMk] at hx
        obtain ⟨X, hX⟩ := choose_lt (α := Mk) (p := fun i x => x.right ∧ (a.add (i * 2)).spot = none ∧ (a.add (i * 2)).block < w.heap.size ∧ ∀ j v, (Cel.cs x)[j]? = some v → w.cell? ⟨(a.add (i * 2)).block, (a.add (i * 2)).off + j, none⟩ = some v)
          (n := len) (fun i hi => by obtain ⟨cs', h1, h2⟩ := hx i (by omega); exact openMk h1 h2)
        obtain ⟨l, rfl, hR, hat⟩ := at_of (α := Mk) (by decide) (R := Mk.right) hX
        exact ⟨some a, cap, l, rfl, by simp [maxLen] at hm ⊢; omega, hR, hat⟩
    refine ⟨⟨row, who, epoch, last, A, cap, l⟩, ⟨⟨i64_of w0, i64_of w1, i64_of w2, i64_of w3, hl, hR⟩, hat⟩, hsp, hlt, ?_⟩
    intro j v hv
    have hj : j < 5 := (List.getElem?_eq_some_iff.1 hv).1
    have q := hc j hj
    have e : a.add j = ⟨a.block, a.off + j, none⟩ := by
      obtain ⟨b, o, s⟩ := a
      simp only at hsp
      subst hsp
      exact Addr.add_mid b o j
    rw [e] at q
    rw [q]
    exact hv

theorem openMakerS {H : Type} {enc : TypeId × Value → H} {W : World} {base n : Nat} {spare : Nat → Bool} {held : Bool} {c : Value} {y : DataW H × List MemPlace}
    (g : DataW.trod enc Tryz.prog W base spare held n 28 [c] = some y) :
    ∃ (A : Option Addr) (cap : Nat) (l : List MC), c = .slice A l.length cap ∧ l.length ≤ 9223372036854775807 ∧ (∀ x ∈ l, x.right) ∧ At W A l ∧ Each W l := by
  rcases open_slice Tryz.underlying28 g with ⟨e2, _⟩ | ⟨a, len, cap, m, n', D, Pl, e2, _, hl, hm, hmm, _, hx⟩
  · simp at e2
    subst e2
    exact ⟨none, 0, [], rfl, by simp, by simp, .inl rfl, by simp [Each]⟩
  · simp at e2
    subst e2
    have hle : len ≤ m := by rw [hmm]; split <;> omega
    rw [cellsMC] at hx
    obtain ⟨X, hX⟩ := choose_lt (α := MC) (p := fun i x => (x.right ∧ At W x.A x.ms) ∧ (a.add (i * 5)).spot = none ∧ (a.add (i * 5)).block < W.heap.size ∧ ∀ j v, (Cel.cs x)[j]? = some v → W.cell? ⟨(a.add (i * 5)).block, (a.add (i * 5)).off + j, none⟩ = some v)
      (n := len) (fun i hi => by obtain ⟨cs', h1, h2⟩ := hx i (by omega); exact openMC h1 h2)
    obtain ⟨l, rfl, hR, hat⟩ := at_of (α := MC) (by decide) (R := fun x => x.right ∧ At W x.A x.ms) hX
    exact ⟨some a, cap, l, rfl, by simp [maxLen] at hm ⊢; omega, fun x hx => (hR x hx).1, hat, fun x hx => (hR x hx).2⟩
end Go.Proofs.YtclgdghfcjkhfaaGreat.Gen
