/-
  The program's map of makers at this seat, gone through: each entry once, in whatever order; where a maker belongs (placeFor). No condition but that there are at most 1048576, and that numbers are 64 bits wide.
-/
import Derived.Test.YtpbbpjckkccjaaaMkMap
import Derived.Test.YtpbbpjckkccjaaaRecs
import Derived.Maps.RangeRun
namespace Go.Proofs.Ytpbbpjckkccjaaa.Gen
open Go.ChangeShapes Go.WideShapes Go.ChangeAt Go.RowKit Go.Joins Go.Deep Base
open Go.ChangeMaps (setBlock heap_setBlock_same heap_setBlock_other)
set_option linter.unusedVariables false
set_option linter.unusedSimpArgs false

/-- The entries of the makers at the places I. -/
def entsI (l : List MC) (I : List Nat) : Array MapEntry := (I.map (ent l)).toArray
theorem ents_range (l : List MC) (n : Nat) : ents l n = entsI l (List.range n) := rfl
theorem mem_entsI {l : List MC} {I : List Nat} {e : MapEntry} (h : e ∈ (entsI l I).toList) : ∃ i ∈ I, e = ent l i := by
  simp [entsI] at h
  obtain ⟨i, hi, rfl⟩ := h
  exact ⟨i, hi, rfl⟩
theorem born_ent (l : List MC) (i : Nat) : (ent l i).born = i := rfl
/-- A map's block with these entries, c laid so far; and a range over it that has told S. -/
def MapOn (w : World) (b : Nat) (l : List MC) (I : List Nat) (c : Nat) : Prop := w.heap[b]? = some (.map (entsI l I) c)
def IterOn (w : World) (r b c : Nat) (S : Array Nat) : Prop := w.heap[r]? = some (.mapIter (some b) c S c)
theorem MapOn.lt {w : World} {b c : Nat} {l : List MC} {I : List Nat} (h : MapOn w b l I c) : b < w.heap.size := (Array.getElem?_eq_some_iff.1 h).1
theorem IterOn.lt {w : World} {r b c : Nat} {S : Array Nat} (h : IterOn w r b c S) : r < w.heap.size := (Array.getElem?_eq_some_iff.1 h).1
theorem MapOn.offp {w w' : World} {b c : Nat} {l : List MC} {I : List Nat} {T : Nat → Prop} (h : MapOn w b l I c) (k : Offp T w w') (hb : ¬ T b) : MapOn w' b l I c := (k.block b h.lt hb).trans h
theorem IterOn.offp {w w' : World} {r b c : Nat} {S : Array Nat} {T : Nat → Prop} (h : IterOn w r b c S) (k : Offp T w w') (hb : ¬ T r) : IterOn w' r b c S := (k.block r h.lt hb).trans h
theorem MapOn.below {w w' : World} {b c : Nat} {l : List MC} {I : List Nat} (h : MapOn w b l I c) (g : Below w.heap.size w w') : MapOn w' b l I c := h.offp (Offp.of_below (S := fun _ => False) g) (fun e => e)
theorem IterOn.below {w w' : World} {r b c : Nat} {S : Array Nat} (h : IterOn w r b c S) (g : Below w.heap.size w w') : IterOn w' r b c S := h.offp (Offp.of_below (S := fun _ => False) g) (fun e => e)
theorem MapOn.ne {w : World} {r b c d : Nat} {l : List MC} {I : List Nat} {S : Array Nat} (h : MapOn w b l I c) (k : IterOn w r b d S) : r ≠ b := fun e => by
  subst e; have := (show w.heap[r]? = _ from h).symm.trans k; cases this
/-- THE STEP of a range: none is left; or one that was not told comes, and only the range's own block turns. -/
theorem range_step {w : World} {r b c : Nat} {l : List MC} {I : List Nat} {S : Array Nat} (hb : MapOn w b l I c) (hr : IterOn w r b c S) (hI : ∀ i ∈ I, i < c) (hnd : I.Nodup) (ty : TypeId) :
    ((∀ i ∈ I, i ∈ S) ∧ (Instr.next (.pointer (some ⟨r, 0, none⟩)) false ty).run Try.prog w = .ok (.tuple #[.bool false]) w) ∨
    ∃ i ∈ I, i ∉ S ∧ ∃ w', (Instr.next (.pointer (some ⟨r, 0, none⟩)) false ty).run Try.prog w = .ok (.tuple #[.bool true, (ent l i).key, (ent l i).val]) w' ∧ MapOn w' b l I c ∧ IterOn w' r b c (S.push i) ∧ Offp (fun x => x = r) w w' ∧
      (Instr.entry (.pointer (some ⟨r, 0, none⟩))).run Try.prog w' = .ok (.tuple #[(ent l i).key, (ent l i).val]) w' ∧ w'.rangeLeft b r < w.rangeLeft b r := by
  have hne := hb.ne hr
  have hold : ∀ x ∈ (entsI l I).toList, x.born < c := fun x hx => by obtain ⟨i, hi, rfl⟩ := mem_entsI hx; exact hI i hi
  rcases run_next_at (P := Try.prog) w ty r b c c S (entsI l I) c hr hb hold (Nat.le_refl _) with ⟨h0, hrun⟩ | ⟨e, he, w1, hal, hrun⟩
  · refine .inl ⟨fun i hi => ?_, hrun⟩
    have := all_seen _ _ h0 (ent l i) (by simp [entsI]; exact ⟨i, hi, rfl⟩)
    simpa [born_ent] using this
  · obtain ⟨hem, hes⟩ := mem_left he
    obtain ⟨i, hi, rfl⟩ := mem_entsI hem
    have hr1 : w1.heap[r]? = some (.mapIter (some b) c S c) := by rcases hal with rfl | rfl <;> exact hr
    have hb1 : w1.heap[b]? = some (.map (entsI l I) c) := by rcases hal with rfl | rfl <;> exact hb
    have hset := MapKept.heap_set (o' := .mapIter (some b) c (S.push (ent l i).born) c) hr1
    have hM : MapOn (setBlock w1 r (.mapIter (some b) c (S.push (ent l i).born) c)) b l I c := (hset.2 b (fun e1 => hne e1.symm)).trans hb1
    have hIt : IterOn (setBlock w1 r (.mapIter (some b) c (S.push (ent l i).born) c)) r b c (S.push i) := hset.1
    refine .inr ⟨i, hi, by simpa [born_ent] using hes, _, hrun, hM, hIt, ?_, ?_, ?_⟩
    · rcases hal with rfl | rfl
      · exact ⟨rfl, rfl, rfl, by simp [setBlock], fun k hk hn => hset.2 k hn⟩
      · exact ⟨rfl, rfl, rfl, by simp [setBlock], fun k hk hn => hset.2 k hn⟩
    · refine run_entry_at _ r b c S (entsI l I) c (ent l i) hset.1 hM hem ?_
      simp only [entsI, List.map_map]
      have : (MapEntry.born ∘ ent l) = id := by funext j; rfl
      rw [this, List.map_id]
      exact hnd
    · have h1 : (setBlock w1 r (.mapIter (some b) c (S.push (ent l i).born) c)).rangeLeft b r = (leftOf (entsI l I) (S.push (ent l i).born)).size := by
        unfold World.rangeLeft; rw [hM, show (setBlock w1 r _).heap[r]? = _ from hset.1]
      have h2 : w.rangeLeft b r = (leftOf (entsI l I) S).size := by
        unfold World.rangeLeft; rw [hb, hr]
      rw [h1, h2]
      exact left_shrinks _ _ _ he
theorem rangeLeft_offp {w w' : World} {b r c : Nat} {l : List MC} {I : List Nat} {S : Array Nat} (hb : MapOn w b l I c) (hr : IterOn w r b c S) (hb' : MapOn w' b l I c) (hr' : IterOn w' r b c S) : w'.rangeLeft b r = w.rangeLeft b r := by
  unfold World.rangeLeft; rw [hb, hr, hb', hr']

/-- A key stands behind another one: by row, then by client. -/
def behK (r1 w1 r2 w2 : Int) : Bool := decide (r2 < r1) || (decide (r1 = r2) && decide (w2 < w1))
theorem isBeh_any (r1 w1 a1 r2 w2 a2 : Int) (w : World) :
    Calls Try.prog 56 #[.agg #[.int .i64 r1, .int .i64 w1, .int .i64 a1], .agg #[.int .i64 r2, .int .i64 w2, .int .i64 a2]] w fun e w' => e = .returned (.bool (behK r1 w1 r2 w2)) ∧ Below w.heap.size w w' := by
  by_cases h : r1 = r2
  · have hF : Hid (behK r1 w1 r2 w2 = decide (w2 < w1)) := by show _ = _; simp [behK, h]
    have h1 : (r1 != r2) = false := by simp [h]
    go_enter Try.func56, Try.ntmps56
    go_wp2
    go_ret
    exact ⟨by rw [hF.out]; first | rfl | simp, by repeat (first | exact Below.refl _ _ | assumption | refine via0 (by assumption) ?_ | refine Below.drew ?_ | refine alloc0 ?_ _)⟩
  · have hF : Hid (behK r1 w1 r2 w2 = decide (r2 < r1)) := by show _ = _; simp [behK, h]
    have h1 : (r1 != r2) = true := by simp [h]
    go_enter Try.func56, Try.ntmps56
    go_wp2
    go_ret
    exact ⟨by rw [hF.out]; first | rfl | simp, by repeat (first | exact Below.refl _ _ | assumption | refine via0 (by assumption) ?_ | refine Below.drew ?_ | refine alloc0 ?_ _)⟩

/-- The first place whose maker stands behind a row and client. -/
def plc (l : List MC) (row who : Int) : Nat := l.findIdx fun x => behK x.row x.who row who
theorem plc_is {l : List MC} {row who : Int} {z : Nat} (hz : z ≤ l.length) (h1 : ∀ i (h : i < l.length), behK l[i].row l[i].who row who = true → z ≤ i) (h2 : z = l.length ∨ ∃ h : z < l.length, behK l[z].row l[z].who row who = true) : plc l row who = z := by
  unfold plc
  rcases h2 with rfl | ⟨hlt, hb⟩
  · rw [List.findIdx_eq_length]
    intro x hx
    obtain ⟨i, hi, rfl⟩ := List.getElem_of_mem hx
    cases hc : behK l[i].row l[i].who row who
    · simp
    · have := h1 i hi hc; omega
  · rw [List.findIdx_eq hlt]
    refine ⟨hb, fun j hj => ?_⟩
    cases hc : behK (l[j]'(by omega)).row (l[j]'(by omega)).who row who
    · rfl
    · have := h1 j (by omega) hc; omega

set_option maxRecDepth 100000 in
set_option maxHeartbeats 1000000 in
/-- Where there is none of that row and client: the place of the first one behind it. -/
theorem placeFor_none (b : Nat) (l : List MC) (row who : Int) (hl : l.length ≤ 1048576) (hr : ∀ x ∈ l, I64 x.row ∧ I64 x.who) (hrow : I64 row) (hwho : I64 who) (w : World) (hM : MapIs w b l l.length) (hns : ¬ seen l l.length row who) :
    Calls Try.prog 38 #[.map (some b), .agg #[.int .i64 row, .int .i64 who, .int .i64 0]] w fun e w' => e = .returned (.int .i64 (plc l row who : Int)) ∧ Below w.heap.size w w' := by
  have K0 : Blk (w.alloc (.cells #[.int .i64 row, .int .i64 who, .int .i64 0] 67)) w.heap.size 67 #[.int .i64 row, .int .i64 who, .int .i64 0] := Blk.new w _ _
  have M0 : MapIs (w.alloc (.cells #[.int .i64 row, .int .i64 who, .int .i64 0] 67)) b l l.length := hM.below (alloc0 (Below.refl _ _) _)
  have hlook : (Instr.lookup 64 (.map (some b)) (.agg #[.int .i64 row, .int .i64 who, .int .i64 0]) true).run Try.prog (w.alloc (.cells #[.int .i64 row, .int .i64 who, .int .i64 0] 67)) = .ok (.tuple #[.agg #[.int .i64 0, .int .i64 0, .int .i64 0, .int .i64 0, .int .i64 0, .slice none 0 0], .bool false]) (w.alloc (.cells #[.int .i64 row, .int .i64 who, .int .i64 0] 67)) := by
    rcases look_run (Nat.le_refl _) hl hr hrow hwho M0 with ⟨h, _⟩ | ⟨j, hj, hjn, _, h1, h2, _⟩
    · exact h
    · exact absurd ⟨j, hj, hjn, h1, h2⟩ hns
  have hlt := hM.lt
  have M1 : MapIs ((w.alloc (.cells #[.int .i64 row, .int .i64 who, .int .i64 0] 67)).alloc (.cells #[.int .i64 0, .int .i64 0, .int .i64 0, .int .i64 0, .int .i64 0, .slice none 0 0] 75)) b l l.length := M0.below (alloc0 (Below.refl _ _) _)
  have K1 : Blk ((w.alloc (.cells #[.int .i64 row, .int .i64 who, .int .i64 0] 67)).alloc (.cells #[.int .i64 0, .int .i64 0, .int .i64 0, .int .i64 0, .int .i64 0, .slice none 0 0] 75)) w.heap.size 67 #[.int .i64 row, .int .i64 who, .int .i64 0] := K0.alloc _
  have hsz : (ents l l.length).size = l.length := by simp [ents]
  have hlen : (Builtin.len_ #[64] 3 #[.map (some b)]).run Try.prog ((w.alloc (.cells #[.int .i64 row, .int .i64 who, .int .i64 0] 67)).alloc (.cells #[.int .i64 0, .int .i64 0, .int .i64 0, .int .i64 0, .int .i64 0, .slice none 0 0] 75)) = .ok (.int .i64 (l.length : Int)) ((w.alloc (.cells #[.int .i64 row, .int .i64 who, .int .i64 0] 67)).alloc (.cells #[.int .i64 0, .int .i64 0, .int .i64 0, .int .i64 0, .int .i64 0, .slice none 0 0] 75)) := by
    simp [Builtin.len_, run_underlying Try.underlying64, MapKept.run_getObj_map M1, goInt, hsz, Result.andThen]
  have hrg := run_range_map (P := Try.prog) ((w.alloc (.cells #[.int .i64 row, .int .i64 who, .int .i64 0] 67)).alloc (.cells #[.int .i64 0, .int .i64 0, .int .i64 0, .int .i64 0, .int .i64 0, .slice none 0 0] 75)) 64 67 75 b (ents l l.length) l.length Try.underlying64 M1
  have HM1 := hidP M1
  have HK1 := hidP K1
  have Hr := hidP hr
  have Hns := hidP hns
  clear M0 K0 M1 K1 hM hns hr
  go_enter Try.func38, Try.ntmps38
  go_wp2
  go_loopw [7] (fun pl W => ∃ (S : Array Nat) (z : Nat), pl = .int .i64 (z : Int) ∧ z ≤ l.length ∧ Hid (∀ i (h : i < l.length), i ∈ S → behK l[i].row l[i].who row who = true → z ≤ i) ∧ Hid (z = l.length ∨ ∃ h : z < l.length, behK l[z].row l[z].who row who = true) ∧ Hid (MapOn W b l (List.range l.length) l.length) ∧ Hid (IterOn W (w.heap.size + 1 + 1) b l.length S) ∧ Hid (Blk W w.heap.size 67 #[.int .i64 row, .int .i64 who, .int .i64 0]) ∧ Below w.heap.size w W) (fun _ W => W.rangeLeft b (w.heap.size + 1 + 1))
  case atStart =>
    refine ⟨#[], l.length, rfl, Nat.le_refl _, (fun i h hS => by simp at hS), .inl rfl, ?_, ?_, ?_, ?_⟩
    · exact MapOn.below (show MapOn ((w.alloc (.cells #[.int .i64 row, .int .i64 who, .int .i64 0] 67)).alloc (.cells #[.int .i64 0, .int .i64 0, .int .i64 0, .int .i64 0, .int .i64 0, .slice none 0 0] 75)) b l (List.range l.length) l.length from HM1.out) (alloc0 (Below.refl _ _) _)
    · have h := heap_new ((w.alloc (.cells #[.int .i64 row, .int .i64 who, .int .i64 0] 67)).alloc (.cells #[.int .i64 0, .int .i64 0, .int .i64 0, .int .i64 0, .int .i64 0, .slice none 0 0] 75)) (.mapIter (some b) l.length #[] l.length)
      rw [World.size_alloc, World.size_alloc] at h
      exact h
    · exact HK1.out.alloc _
    · repeat (first | exact Below.refl _ _ | assumption | refine via0 (by assumption) ?_ | refine Below.drew ?_ | refine alloc0 ?_ _)
  case round =>
    obtain ⟨S, z, rfl, hz, hI1, hI2, hM, hIt, hK, hbl⟩ := hrel
    rcases range_step hM.out hIt.out (fun i hi => by simpa using hi) List.nodup_range 0 with ⟨hall, hrun⟩ | ⟨i, hi, hiS, w1, hrun, hM1, hIt1, hk1, hent, hless⟩
    · have hP : Hid (plc l row who = z) := plc_is hz (fun i h hb => hI1.out i h (hall i (by simpa using h)) hb) hI2.out
      clear hall hI1 hI2
      go_wp2
      go_ret
      exact ⟨by rw [hP.out]; rfl, hbl⟩
    · have hil : i < l.length := by simpa using hi
      rw [ent_at l i hil] at hrun hent
      simp only [mkey, pval] at hrun hent
      have hK1 := hK.out.offp hk1 (fun e => by omega)
      have B1 : Below w.heap.size w w1 := hbl.trans (hk1.toBelow (fun x hx => by omega) hbl.size)
      have Hk := hidP hk1
      have HM' := hidP hM1
      have HI' := hidP hIt1
      have Hless := hidP hless
      have HK' := hidP hK1
      obtain ⟨u0, u1, u2⟩ := hK1.row3
      have q1 := hK1.lt
      have hI1x : Hid (∀ z' : Nat, z' ≤ z → (behK l[i].row l[i].who row who = true → z' ≤ i) → ∀ j (h : j < l.length), j ∈ S.push i → behK l[j].row l[j].who row who = true → z' ≤ j) := fun z' hzz hzi j hj hjS hb => by
        rcases Array.mem_push.1 hjS with h | h
        · have := hI1.out j hj h hb; omega
        · subst h; exact hzi hb
      have hI2x : Hid (behK l[i].row l[i].who row who = true → (min z i = l.length ∨ ∃ h : min z i < l.length, behK l[min z i].row l[min z i].who row who = true)) := fun h => by
        by_cases hc : z ≤ i
        · have e : min z i = z := Nat.min_eq_left hc
          simp only [e]; exact hI2.out
        · have e : min z i = i := Nat.min_eq_right (by omega)
          simp only [e]; exact .inr ⟨hil, h⟩
      have HC : Hid (∀ (W : World), Calls Try.prog 56 #[.agg #[.int .i64 l[i].row, .int .i64 l[i].who, .int .i64 (again l i l[i])], .agg #[.int .i64 row, .int .i64 who, .int .i64 0]] W fun e w' => e = .returned (.bool (behK l[i].row l[i].who row who)) ∧ Below W.heap.size W w') := fun W => isBeh_any _ _ _ _ _ _ W
      clear hM1 hIt1 hk1 hless hK1 hI1
      generalize hbb : behK l[i].row l[i].who row who = bb at HC hI1x hI2x
      generalize again l i l[i] = ag at hrun hent HC
      generalize l[i] = x at hrun hent HC
      clear hbb
      obtain ⟨xr, xw, xe, xl, xA, xc, xm⟩ := x
      simp only at hrun hent HC
      have hib : i ≤ 1048576 := by omega
      have hmin : ∀ W : World, (Builtin.min_ #[3, 3] 3 #[.int .i64 (z : Int), .int .i64 (i : Int)]).run Try.prog W = .ok (.int .i64 ((min z i : Nat) : Int)) W := fun W => by
        by_cases h : z ≤ i
        · have h' : (z : Int) ≤ (i : Int) := by omega
          simp [Builtin.min_, Builtin.min2, h, h', Nat.min_eq_left h]
          omega
        · have h' : ¬ (z : Int) ≤ (i : Int) := by omega
          simp [Builtin.min_, Builtin.min2, h, h', Nat.min_eq_right (show i ≤ z by omega)]
      cases bb
      · have hJ1 := hidP (hI1x.out z (Nat.le_refl _) (fun h => by cases h))
        clear hI1x hI2x
        go_wp2_with fail
        refine (HC.out _).mono ?_
        rintro e w2 ⟨rfl, g2⟩
        have gg : Below w1.heap.size w1 w2 := via0 g2 (alloc0 (alloc0 (Below.refl _ _) _) _)
        have GG := hidP gg
        clear gg g2
        go_wp2
        have hm2 := HM'.out.below GG.out
        have hi2 := HI'.out.below GG.out
        exact ⟨⟨S.push i, z, rfl, hz, hJ1, hI2, hm2, hi2, HK'.out.below GG.out HK'.out.lt, via0 GG.out B1⟩, by rw [rangeLeft_offp HM'.out HI'.out hm2 hi2]; exact Hless.out⟩
      · have hJ1 := hidP (hI1x.out (min z i) (Nat.min_le_left _ _) (fun _ => Nat.min_le_right _ _))
        have hJ2 : Hid (min z i = l.length ∨ ∃ h : min z i < l.length, behK l[min z i].row l[min z i].who row who = true) := by
          exact hI2x.out rfl
        clear hI1x hI2x
        go_wp2_with fail
        refine (HC.out _).mono ?_
        rintro e w2 ⟨rfl, g2⟩
        have gg : Below w1.heap.size w1 w2 := via0 g2 (alloc0 (alloc0 (Below.refl _ _) _) _)
        have v1 := ((Blk.new (w1.alloc (.cells #[.int .i64 xr, .int .i64 xw, .int .i64 ag] 67)) 75 #[.int .i64 (i : Int), .int .i64 xr, .int .i64 xw, .int .i64 xe, .int .i64 xl, .slice xA xm.length xc])).below g2 (by simp)
        rw [World.size_alloc] at v1
        have v0 : w2.cell? ⟨w1.heap.size + 1, 0, none⟩ = some (.int .i64 (i : Int)) := v1.cell (by rfl)
        have qv := v1.lt
        have GG := hidP gg
        clear gg g2 v1
        go_wp2
        have hm2 := HM'.out.below GG.out
        have hi2 := HI'.out.below GG.out
        exact ⟨⟨S.push i, min z i, rfl, by omega, hJ1, hJ2, hm2, hi2, HK'.out.below GG.out HK'.out.lt, via0 GG.out B1⟩, by rw [rangeLeft_offp HM'.out HI'.out hm2 hi2]; exact Hless.out⟩
end Go.Proofs.Ytpbbpjckkccjaaa.Gen
