/-
  The program's MakerSet at this seat: where the one is laid, how many there are, and that it is found. No condition but that there are at most 1048575, and that numbers are 64 bits wide.
-/
import Derived.Test.YtpbbpjckkccjaaaMkSet
namespace Go.Proofs.Ytpbbpjckkccjaaa.Gen
open Go.ChangeShapes Go.WideShapes Go.ChangeAt Go.RowKit Go.Joins Go.Deep Base
set_option linter.unusedVariables false
set_option linter.unusedSimpArgs false

theorem all_p (l : List MC) : (List.range l.length).map (fun j => (l.getD j default).p) = l.map MC.p := by
  refine List.ext_getElem (by simp) fun i h1 h2 => ?_
  have hi : i < l.length := by simpa using h1
  simp [hi]
theorem but_p (l : List MC) (j : Nat) : ((List.range l.length).eraseIdx j).map (fun j => (l.getD j default).p) = (l.map MC.p).eraseIdx j := by
  rw [← all_p l, List.eraseIdx_eq_take_drop_succ, List.eraseIdx_eq_take_drop_succ, List.map_append, List.map_take, List.map_drop]
/-- What MakerSet comes to: laid behind those that stand ahead of it, or in its elder's place. -/
def SetI (l : List MC) (m : PM) (r : List PM) : Prop :=
  (¬ seen l l.length m.row m.who ∧ r = (l.map MC.p).take (plc l m.row m.who) ++ m :: (l.map MC.p).drop (plc l m.row m.who)) ∨
  ∃ j, ∃ h : j < l.length, l[j].row = m.row ∧ l[j].who = m.who ∧ ¬ seen l j m.row m.who ∧ r = ((l.map MC.p).eraseIdx j).take j ++ m :: ((l.map MC.p).eraseIdx j).drop j
theorem implSet_any (A : Option Addr) (cap : Nat) (l : List MC) (row who epoch last : Int) (xA : Option Addr) (xc : Nat) (ms : List Mk) (hl : l.length ≤ 1048575) (hr : ∀ x ∈ l, I64 x.row ∧ I64 x.who) (hs : ∀ x ∈ l, x.ms.length ≤ 1048576) (hms : ms.length ≤ 1048576) (hrow : I64 row) (hwho : I64 who) (w : World) (hA : At w A l) (hE : Each w l) (hA2 : At w xA ms) :
    Calls Try.prog 9 #[.slice A l.length cap, .agg #[.int .i64 row, .int .i64 who, .int .i64 epoch, .int .i64 last, .slice xA ms.length xc]] w fun e w' => ∃ g c l', e = .returned (.slice (some ⟨g, 0, none⟩) l'.length c) ∧ Own makP w' (some ⟨g, 0, none⟩) l' (fun x => w.heap.size ≤ x ∧ x < w'.heap.size) ∧ SetI l ⟨row, who, epoch, last, ms⟩ (l'.map MC.p) ∧ Below w.heap.size w w' := by
  have hl' : l.length ≤ 1048576 := by omega
  by_cases hsn : seen l l.length row who
  · obtain ⟨j, hj, _, h1, h2, h3⟩ := seen_first _ hsn
    have hlen : ((List.range l.length).eraseIdx j).length = l.length - 1 := by rw [List.length_eraseIdx]; simp [hj]
    refine (mset_core A cap l row who epoch last xA xc ms hl hr hs hms w hA hE hA2 j ((List.range l.length).eraseIdx j) (fun k hk => ?_) (List.Pairwise.sublist (List.eraseIdx_sublist _ _) List.pairwise_lt_range) (by omega) (by omega)
      (fun W b hM => placeFor_some b l row who hl' hr hrow hwho W hM j hj h1 h2 h3) (fun W b hM => del_some hl' hr hrow hwho hM h1 h2 h3)).mono ?_
    · have := List.mem_of_mem_eraseIdx hk
      simp at this
      exact ⟨this, this⟩
    · rintro e w' ⟨g, c, l', he, hO, hp, hB⟩
      rw [but_p] at hp
      exact ⟨g, c, l', he, hO, .inr ⟨j, hj, h1, h2, h3, hp⟩, hB⟩
  · refine (mset_core A cap l row who epoch last xA xc ms hl hr hs hms w hA hE hA2 (plc l row who) (List.range l.length) (fun k hk => ?_) List.pairwise_lt_range (by rw [List.length_range]; exact List.findIdx_le_length) (by simp)
      (fun W b hM => placeFor_none b l row who hl' hr hrow hwho W hM hsn) (fun W b hM => del_none hl' hr hrow hwho hM hsn)).mono ?_
    · simp at hk
      exact ⟨hk, hk⟩
    · rintro e w' ⟨g, c, l', he, hO, hp, hB⟩
      rw [all_p] at hp
      exact ⟨g, c, l', he, hO, .inl ⟨hsn, hp⟩, hB⟩

theorem SetI.len {l : List MC} {m : PM} {r : List PM} (h : SetI l m r) : r.length = if seenB l l.length m.row m.who then l.length else l.length + 1 := by
  rcases h with ⟨hn, rfl⟩ | ⟨j, hj, h1, h2, h3, rfl⟩
  · rw [if_neg (fun e => hn ((seen_iff _ _ _ _).2 e))]
    have : plc l m.row m.who ≤ l.length := List.findIdx_le_length
    simp; omega
  · rw [if_pos ((seen_iff _ _ _ _).1 ⟨j, hj, hj, h1, h2⟩)]
    simp [List.length_eraseIdx, hj]; omega
theorem mofP_of {l' : List MC} {m : PM} {P1 P2 : List PM} (h : l'.map MC.p = P1 ++ m :: P2) (hP : ∀ y ∈ P1, ¬ (y.row = m.row ∧ y.who = m.who)) : mofP l' m.row m.who = m := by
  have hlen : P1.length < l'.length := by have := congrArg List.length h; simp at this; omega
  have hat : l'[P1.length].p = m := by
    have h1 : (l'.map MC.p)[P1.length]'(by simpa using hlen) = m := by simp [h]
    simpa using h1
  have hns : ¬ seen l' P1.length m.row m.who := by
    rintro ⟨i, hi, hlt, a1, a2⟩
    have h1 : (l'.map MC.p)[i]'(by simpa using hi) = P1[i] := by simp [h, List.getElem_append_left hlt]
    have h2 : l'[i].p = P1[i] := by simpa using h1
    refine hP _ (List.getElem_mem hlt) ?_
    rw [← h2]
    exact ⟨a1, a2⟩
  rw [mofP_at hlen (congrArg PM.row hat) (congrArg PM.who hat) hns, hat]
theorem SetI.found {l l' : List MC} {m : PM} (h : SetI l m (l'.map MC.p)) : mofP l' m.row m.who = m := by
  rcases h with ⟨hn, hr⟩ | ⟨j, hj, h1, h2, h3, hr⟩
  · refine mofP_of hr fun y hy e => ?_
    obtain ⟨x, hx, rfl⟩ := List.mem_map.1 (List.mem_of_mem_take hy)
    obtain ⟨i, hi, rfl⟩ := List.getElem_of_mem hx
    exact hn ⟨i, hi, hi, e.1, e.2⟩
  · refine mofP_of hr fun y hy e => ?_
    rw [List.eraseIdx_eq_take_drop_succ, List.take_append_of_le_length (by simp; omega), List.take_take, Nat.min_self] at hy
    obtain ⟨i, hi, rfl⟩ := List.mem_take_iff_getElem.1 hy
    have hij : i < j := by omega
    have hil : i < l.length := by omega
    refine h3 ⟨i, hil, hij, ?_, ?_⟩
    · have := e.1; simpa [MC.p] using this
    · have := e.2; simpa [MC.p] using this
end Go.Proofs.Ytpbbpjckkccjaaa.Gen
