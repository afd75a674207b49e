/-
  The program's map of makers at this seat: what stands in it, and what is looked up in it. No condition but that numbers are 64 bits wide.
-/
import Derived.Test.YtpbbpjckkccjaaaMakList
import Derived.Maps.Keyed
import Derived.DeepKeys4
import Derived.ChangeMaps5
namespace Go.Proofs.Ytpbbpjckkccjaaa.Gen
open Go.ChangeShapes Go.WideShapes Go.ChangeAt Go.RowKit Go.Joins Go.Deep Base
open Go.Maps (Keyed)
open Go.ChangeMaps (setBlock heap_setBlock_same heap_setBlock_other)
set_option linter.unusedVariables false
set_option linter.unusedSimpArgs false

theorem mkLaidOut : laidOutB Try.prog = true := by kernel_rfl
theorem rowKey : (67 : TypeId) < Try.prog.types.size := of_decide_eq_true (by kernel_rfl)
theorem wideKey : (match Try.prog.underlying 67 with | some (.array _ _) | some (.struct _) => true | _ => false) = true := by rw [Try.underlying67]
set_option maxRecDepth 100000 in
theorem keyed : Keyed Try.prog 67 := Keyed.of_law (deep_law_laid mkLaidOut (m := 2) (by omega) rowKey (by kernel_rfl) wideKey)

def mkey (a b c : Int) : Value := .agg #[.int .i64 a, .int .i64 b, .int .i64 c]
theorem mkey_inj {a b c a' b' c' : Int} (h : mkey a b c = mkey a' b' c') : a = a' ∧ b = b' ∧ c = c' := by simpa [mkey] using h
theorem wf_of {x : Int} (h : I64 x) : (Lit.int .i64 x).wf = true := by simpa [I64, Lit.wf, IntKind.min, IntKind.max, IntKind.signed, IntKind.bits] using h

theorem keyTyped : Try.prog.keyType 67 = true := by kernel_rfl
theorem cellsKey : Try.prog.cellsOf 67 = 3 := by kernel_rfl
theorem cellsInt1 : Try.prog.cellsOf 3 = 1 := by kernel_rfl
theorem typesPos : ∃ n, Try.prog.types.size = n + 1 := by
  have h : 0 < Try.prog.types.size := Nat.lt_of_le_of_lt (Nat.zero_le _) rowKey
  exact ⟨Try.prog.types.size - 1, by omega⟩
theorem lits_int {d : Nat} {x : Int} (h : I64 x) : Try.prog.keyLits (d + 1) 3 [.int .i64 x] = some [.int .i64 x] := by
  simp [Program.keyLits, Try.underlying3, wf_of h]
theorem keyOf_mkey {a b c : Int} (ha : I64 a) (hb : I64 b) (hc : I64 c) : ∃ kl, keyOf Try.prog 67 (mkey a b c) = some kl := by
  obtain ⟨n, hn⟩ := typesPos
  have hf : (mkey a b c).formed Try.prog 67 = true := by simp [mkey, Value.formed, Try.underlying67, cellsKey]
  have hk : Try.prog.keyLits (Try.prog.types.size + 1) 67 (mkey a b c).cells.toList = some [.int .i64 a, .int .i64 b, .int .i64 c] := by
    rw [hn]
    unfold Program.keyLits
    rw [Try.underlying67]
    simp [mkey, Value.cells, cellsKey, cellsInt1, lits_int ha, lits_int hb, lits_int hc]
  refine ⟨.string (keyBytes [.int .i64 a, .int .i64 b, .int .i64 c]), ?_⟩
  unfold keyOf
  rw [Try.underlying67]
  simp only [keyTyped, hf, Bool.and_self, if_true]
  rw [hk]
  rfl

/-! ### What stands in it -/

/-- Some one ahead has that row and client. -/
def seen (l : List MC) (n : Nat) (row who : Int) : Prop := ∃ i, ∃ h : i < l.length, i < n ∧ l[i].row = row ∧ l[i].who = who
def seenB (l : List MC) (n : Nat) (row who : Int) : Bool := (l.take n).any fun x => x.row == row && x.who == who
theorem seen_iff (l : List MC) (n : Nat) (row who : Int) : seen l n row who ↔ seenB l n row who = true := by
  simp only [seenB, List.any_eq_true, Bool.and_eq_true, beq_iff_eq]
  constructor
  · rintro ⟨i, h, hi, h1, h2⟩
    exact ⟨l[i], List.mem_take_iff_getElem.2 ⟨i, by omega, rfl⟩, h1, h2⟩
  · rintro ⟨x, hx, h1, h2⟩
    obtain ⟨i, hi, rfl⟩ := List.mem_take_iff_getElem.1 hx
    exact ⟨i, by omega, by omega, h1, h2⟩
instance (l : List MC) (n : Nat) (row who : Int) : Decidable (seen l n row who) := decidable_of_iff _ (seen_iff l n row who).symm
def again (l : List MC) (i : Nat) (x : MC) : Int := if seen l i x.row x.who then (i : Int) else 0
def pval (i : Nat) (x : MC) : Value := .agg #[.int .i64 (i : Int), .int .i64 x.row, .int .i64 x.who, .int .i64 x.epoch, .int .i64 x.last, .slice x.A x.ms.length x.cap]
def ent (l : List MC) (i : Nat) : MapEntry := ⟨mkey (l.getD i default).row (l.getD i default).who (again l i (l.getD i default)), pval i (l.getD i default), i⟩
def ents (l : List MC) (n : Nat) : Array MapEntry := ((List.range n).map (ent l)).toArray
theorem ents_push (l : List MC) (n : Nat) : (ents l n).push (ent l n) = ents l (n + 1) := by simp [ents, List.range_succ]
theorem ent_at (l : List MC) (i : Nat) (h : i < l.length) : ent l i = ⟨mkey l[i].row l[i].who (again l i l[i]), pval i l[i], i⟩ := by simp [ent, h]
theorem mem_ents {l : List MC} {n : Nat} {e : MapEntry} (h : e ∈ (ents l n).toList) : ∃ i, i < n ∧ e = ent l i := by
  simp [ents] at h
  obtain ⟨i, hi, rfl⟩ := h
  exact ⟨i, hi, rfl⟩
theorem ents_at {l : List MC} {n j : Nat} {e : MapEntry} (h : (ents l n).toList[j]? = some e) : j < n ∧ e = ent l j := by
  have h' : ((List.range n).map (ent l))[j]? = some e := by simpa [ents] using h
  obtain ⟨hj, he⟩ := List.getElem?_eq_some_iff.1 h'
  rw [List.getElem_map, List.getElem_range] at he
  exact ⟨by simpa using hj, he.symm⟩
theorem again_i64 (l : List MC) (i : Nat) (x : MC) (h : i ≤ 1048576) : I64 (again l i x) := by unfold again I64; split <;> omega
theorem ents_keys {l : List MC} {n : Nat} (hn : n ≤ l.length) (hl : l.length ≤ 1048576) (hr : ∀ x ∈ l, I64 x.row ∧ I64 x.who) : ∀ e ∈ (ents l n).toList, ∃ kl, keyOf Try.prog 67 e.key = some kl := by
  intro e he
  obtain ⟨i, hi, rfl⟩ := mem_ents he
  rw [ent_at l i (by omega)]
  have h := hr _ (List.getElem_mem (show i < l.length by omega))
  exact keyOf_mkey h.1 h.2 (again_i64 l i _ (by omega))

/-- The least one that has that row and client stands under 0. -/
theorem seen_first {l : List MC} {row who : Int} : ∀ (n : Nat), seen l n row who → ∃ i, ∃ h : i < l.length, i < n ∧ l[i].row = row ∧ l[i].who = who ∧ ¬ seen l i row who := by
  intro n
  induction n using Nat.strongRecOn with
  | _ n ih =>
    rintro ⟨i, h, hi, h1, h2⟩
    by_cases hs : seen l i row who
    · obtain ⟨j, hj, hji, g⟩ := ih i hi hs
      exact ⟨j, hj, by omega, g⟩
    · exact ⟨i, h, hi, h1, h2, hs⟩
theorem again_zero {l : List MC} {i : Nat} {h : i < l.length} (hz : again l i l[i] = 0) : ¬ seen l i l[i].row l[i].who := by
  unfold again at hz
  split at hz
  · intro hs
    obtain ⟨j, _, hj, _⟩ := hs
    omega
  · assumption

/-- What the search for a row and client comes to. -/
theorem find_zero {l : List MC} {n : Nat} (hn : n ≤ l.length) (hl : l.length ≤ 1048576) (hr : ∀ x ∈ l, I64 x.row ∧ I64 x.who) {row who : Int} (hrow : I64 row) (hwho : I64 who) (w : World) :
    ((Instr.findKey 67 (mkey row who 0) (ents l n).toList).run Try.prog w = .ok none w ∧ ¬ seen l n row who) ∨
    ∃ j, ∃ h : j < l.length, j < n ∧ (Instr.findKey 67 (mkey row who 0) (ents l n).toList).run Try.prog w = .ok (some (j, pval j l[j])) w ∧ l[j].row = row ∧ l[j].who = who ∧ ¬ seen l j row who := by
  obtain ⟨kl, hk⟩ := keyOf_mkey hrow hwho (show I64 0 by unfold I64; omega)
  rcases keyed.find w hk (ents l n).toList (ents_keys hn hl hr) with ⟨h1, h2⟩ | ⟨j, e, h1, h2, h3⟩
  · refine .inl ⟨h1, fun hs => ?_⟩
    obtain ⟨i, hi, hin, e1, e2, hns⟩ := seen_first n hs
    refine h2 (ent l i) (by simp [ents]; exact ⟨i, hin, rfl⟩) ?_
    rw [ent_at l i hi]
    show mkey _ _ _ = _
    rw [e1, e2]
    unfold again
    rw [if_neg (by rw [e1, e2]; exact hns)]
  · obtain ⟨hj, rfl⟩ := ents_at h2
    have hjl : j < l.length := by omega
    rw [ent_at l j hjl] at h1 h3
    obtain ⟨e1, e2, e3⟩ := mkey_inj h3
    have := again_zero e3
    rw [e1, e2] at this
    exact .inr ⟨j, hjl, hj, h1, e1, e2, this⟩
/-- Where the next one goes there is none. -/
theorem find_next {l : List MC} {n : Nat} (hn : n < l.length) (hl : l.length ≤ 1048576) (hr : ∀ x ∈ l, I64 x.row ∧ I64 x.who) (w : World) :
    (Instr.findKey 67 (mkey l[n].row l[n].who (again l n l[n])) (ents l n).toList).run Try.prog w = .ok none w := by
  have h := hr _ (List.getElem_mem hn)
  obtain ⟨kl, hk⟩ := keyOf_mkey h.1 h.2 (again_i64 l n l[n] (by omega))
  rcases keyed.find w hk (ents l n).toList (ents_keys (by omega) hl hr) with ⟨h1, h2⟩ | ⟨j, e, h1, h2, h3⟩
  · exact h1
  · exfalso
    obtain ⟨hj, rfl⟩ := ents_at h2
    have hjl : j < l.length := by omega
    rw [ent_at l j hjl] at h3
    obtain ⟨e1, e2, e3⟩ := mkey_inj h3
    have hs : seen l n l[n].row l[n].who := ⟨j, hjl, hj, e1, e2⟩
    rw [show again l n l[n] = (n : Int) from if_pos hs] at e3
    unfold again at e3
    split at e3 <;> omega

/-- The map's block. -/
def MapIs (w : World) (b : Nat) (l : List MC) (n : Nat) : Prop := w.heap[b]? = some (.map (ents l n) n)
theorem MapIs.lt {w : World} {b n : Nat} {l : List MC} (h : MapIs w b l n) : b < w.heap.size := (Array.getElem?_eq_some_iff.1 h).1
theorem MapIs.below {w w' : World} {b n : Nat} {l : List MC} (h : MapIs w b l n) (g : Below w.heap.size w w') : MapIs w' b l n := (g.block b h.lt).trans h
theorem MapIs.set {w : World} {b n : Nat} {l : List MC} (h : MapIs w b l n) (B i : Nat) (v : Value) (hne : b ≠ B) : MapIs (w.setCell ⟨B, i, none⟩ v) b l n := (Below.heap_setCell w ⟨B, i, none⟩ v b hne).trans h

theorem zeroPlaced (w : World) : (zeroValue 75).run Try.prog w = .ok (.agg #[.int .i64 0, .int .i64 0, .int .i64 0, .int .i64 0, .int .i64 0, .slice none 0 0]) w := by kernel_rfl

theorem look_run {w : World} {b n : Nat} {l : List MC} (hn : n ≤ l.length) (hl : l.length ≤ 1048576) (hr : ∀ x ∈ l, I64 x.row ∧ I64 x.who) {row who : Int} (hrow : I64 row) (hwho : I64 who) (h : MapIs w b l n) :
    ((Instr.lookup 64 (.map (some b)) (mkey row who 0) true).run Try.prog w = .ok (.tuple #[.agg #[.int .i64 0, .int .i64 0, .int .i64 0, .int .i64 0, .int .i64 0, .slice none 0 0], .bool false]) w ∧ ¬ seen l n row who) ∨
    ∃ j, ∃ h : j < l.length, j < n ∧ (Instr.lookup 64 (.map (some b)) (mkey row who 0) true).run Try.prog w = .ok (.tuple #[pval j l[j], .bool true]) w ∧ l[j].row = row ∧ l[j].who = who ∧ ¬ seen l j row who := by
  obtain ⟨kl, hk⟩ := keyOf_mkey hrow hwho (show I64 0 by unfold I64; omega)
  rcases find_zero hn hl hr hrow hwho w with ⟨h1, h2⟩ | ⟨j, hj, hjn, h1, h2⟩
  · exact .inl ⟨by simp [Instr.lookup, run_underlying Try.underlying64, MapKept.run_getObj_map h, keyed.check w _ hk, h1, zeroPlaced, Result.andThen], h2⟩
  · exact .inr ⟨j, hj, hjn, by simp [Instr.lookup, run_underlying Try.underlying64, MapKept.run_getObj_map h, keyed.check w _ hk, h1, Result.andThen], h2⟩
theorem put_run {w : World} {b n : Nat} {l : List MC} (hn : n < l.length) (hl : l.length ≤ 1048576) (hr : ∀ x ∈ l, I64 x.row ∧ I64 x.who) (h : MapIs w b l n) :
    ∃ w', (Instr.mapUpdate 64 (.map (some b)) (mkey l[n].row l[n].who (again l n l[n])) (pval n l[n])).run Try.prog w = .ok () w' ∧ MapIs w' b l (n + 1) ∧ w.grownBy w' (some b) := by
  have hx := hr _ (List.getElem_mem hn)
  obtain ⟨kl, hk⟩ := keyOf_mkey hx.1 hx.2 (again_i64 l n l[n] (by omega))
  have h1 := find_next hn hl hr w
  refine ⟨setBlock w b (.map ((ents l n).push ⟨mkey l[n].row l[n].who (again l n l[n]), pval n l[n], n⟩) (n + 1)), ?_, ?_, ?_⟩
  · simp [Instr.mapUpdate, run_underlying Try.underlying64, MapKept.run_getObj_map h, keyed.check w false hk, h1, MapKept.run_setObj_map _ h, Result.andThen, setBlock]
  · rw [← ent_at l n hn, ents_push]
    exact heap_setBlock_same h _
  · exact ⟨rfl, rfl, rfl, by simp [setBlock], fun i _ hi => heap_setBlock_other h _ (fun e => hi (by rw [e]))⟩
end Go.Proofs.Ytpbbpjckkccjaaa.Gen
