/-
  Lists of entries: how they lie, what the laws' to, sz, eq, mark and held functions of them do; the argument opened. No condition but that there are at most 1048576, and the length that every text has.
-/
import Derived.Test.YtclgdghfcjkhfaaRecs
import Derived.Test.YtclgdghfcjkhfaaCmd
import Derived.Test.YtclgdghfcjkhfaaMarkText
namespace Go.Proofs.Ytclgdghfcjkhfaa.Gen
open Go.ChangeShapes Go.WideShapes Go.ChangeAt Go.RowKit Go.Joins Go.Deep Base
set_option linter.unusedVariables false

/-- An entry as it is read. -/
structure En where
  term : Int
  who : Int
  seq : Int
  op : Int
  a : Int
  b : Int
  c : Int
  key : ByteArray
  text : ByteArray
instance : Inhabited En := ⟨⟨0, 0, 0, 0, 0, 0, 0, ⟨#[]⟩, ⟨#[]⟩⟩⟩
instance : Cel En where
  k := 9
  cs x := [.int .i64 x.term, .int .i64 x.who, .int .i64 x.seq, .int .i64 x.op, .int .i64 x.a, .int .i64 x.b, .int .i64 x.c, .string x.key, .string x.text]
  len _ := rfl
  one x u hu := by simp at hu; rcases hu with rfl | rfl | rfl | rfl | rfl | rfl | rfl | rfl | rfl <;> rfl
def En.fit (x : En) : Prop := x.key.size ≤ 9223372036854775807 ∧ x.text.size ≤ 9223372036854775807
def En.right (x : En) : Prop := I64 x.term ∧ I64 x.who ∧ I64 x.seq ∧ I64 x.op ∧ I64 x.a ∧ I64 x.b ∧ I64 x.c ∧ x.fit
theorem En.right.fit {x : En} (h : x.right) : x.fit := h.2.2.2.2.2.2.2

theorem In.getEn {w : World} {b o : Nat} {l : List En} (h : In w b o l) (n : Nat) (hi : n < l.length) :
    w.cell? ⟨b, o + n * 9, none⟩ = some (.int .i64 l[n].term) ∧ w.cell? ⟨b, o + n * 9 + 1, none⟩ = some (.int .i64 l[n].who) ∧ w.cell? ⟨b, o + n * 9 + 2, none⟩ = some (.int .i64 l[n].seq) ∧ w.cell? ⟨b, o + n * 9 + 3, none⟩ = some (.int .i64 l[n].op) ∧ w.cell? ⟨b, o + n * 9 + 4, none⟩ = some (.int .i64 l[n].a) ∧ w.cell? ⟨b, o + n * 9 + 5, none⟩ = some (.int .i64 l[n].b) ∧ w.cell? ⟨b, o + n * 9 + 6, none⟩ = some (.int .i64 l[n].c) ∧ w.cell? ⟨b, o + n * 9 + 7, none⟩ = some (.string l[n].key) ∧ w.cell? ⟨b, o + n * 9 + 8, none⟩ = some (.string l[n].text) :=
  ⟨h.cell n hi (f := 0) rfl, h.cell n hi (f := 1) rfl, h.cell n hi (f := 2) rfl, h.cell n hi (f := 3) rfl, h.cell n hi (f := 4) rfl, h.cell n hi (f := 5) rfl, h.cell n hi (f := 6) rfl, h.cell n hi (f := 7) rfl, h.cell n hi (f := 8) rfl⟩
theorem infoEn : (Try.prog.info? 70).map (fun i => (i.zero, i.size, i.bytes)) = some (some (.agg #[.int .i64 0, .int .i64 0, .int .i64 0, .int .i64 0, .int .i64 0, .int .i64 0, .int .i64 0, .string ⟨#[]⟩, .string ⟨#[]⟩]), 9, 88) := by kernel_rfl
def szEn (x : En) : Nat := x.key.size + x.text.size






theorem eqCmd_same (who seq op a b c : Int) (key text : ByteArray) (w : World) :
    Calls Try.prog 52 #[.agg #[.int .i64 who, .int .i64 seq, .int .i64 op, .int .i64 a, .int .i64 b, .int .i64 c, .string key, .string text], .agg #[.int .i64 who, .int .i64 seq, .int .i64 op, .int .i64 a, .int .i64 b, .int .i64 c, .string key, .string text]] w fun e w' => e = .returned (.bool true) ∧ Below w.heap.size w w' := by
  go_enter Try.func52, Try.ntmps52
  go_wp2
  go_ret
  exact ⟨rfl, by repeat (first | exact Below.refl _ _ | assumption | refine via0 (by assumption) ?_ | refine Below.drew ?_ | refine alloc0 ?_ _)⟩

theorem eqEntry_same (term who seq op a b c : Int) (key text : ByteArray) (w : World) :
    Calls Try.prog 42 #[.agg #[.int .i64 term, .int .i64 who, .int .i64 seq, .int .i64 op, .int .i64 a, .int .i64 b, .int .i64 c, .string key, .string text], .agg #[.int .i64 term, .int .i64 who, .int .i64 seq, .int .i64 op, .int .i64 a, .int .i64 b, .int .i64 c, .string key, .string text]] w fun e w' => e = .returned (.bool true) ∧ Below w.heap.size w w' := by
  go_enter Try.func42, Try.ntmps42
  go_wp2_with (go_at_call 52; refine (eqCmd_same _ _ _ _ _ _ _ _ _).mono ?_; rintro e w1 ⟨rfl, g1⟩)
  go_ret
  exact ⟨rfl, by repeat (first | exact Below.refl _ _ | assumption | refine via0 (by assumption) ?_ | refine Below.drew ?_ | refine alloc0 ?_ _)⟩

set_option maxRecDepth 100000 in
set_option maxHeartbeats 1000000 in
theorem eqEntryS_same (A A' : Option Addr) (cap cap' : Nat) (l : List En) (hl : l.length ≤ 9223372036854775807) (w : World) (hA : At w A l) (hA' : At w A' l) :
    Calls Try.prog 24 #[.slice A l.length cap, .slice A' l.length cap'] w fun e w' => e = .returned (.bool true) ∧ Below w.heap.size w w' := by
  have HA := hidP hA
  have HA' := hidP hA'
  clear hA hA'
  go_enter Try.func24, Try.ntmps24
  go_wp2
  go_loopw [5] (fun i w' => ∃ (n : Nat), i = .int .i64 (n : Int) ∧ n ≤ l.length ∧ Below w.heap.size w w') (fun i _ => l.length - (intOf i).toNat)
  case atStart => exact ⟨0, rfl, by omega, Below.refl _ _⟩
  case round =>
    obtain ⟨n, rfl, hn, hbl⟩ := hrel
    by_cases hlt : n < l.length
    · obtain ⟨b, o, rfl, hbs, hin⟩ : ∃ b o, A = some ⟨b, o, none⟩ ∧ b < w.heap.size ∧ In w b o l := by
        rcases HA.out with h | h
        · subst h; simp at hlt
        · exact h
      obtain ⟨b', o', rfl, hbs', hin'⟩ : ∃ b o, A' = some ⟨b, o, none⟩ ∧ b < w.heap.size ∧ In w b o l := by
        rcases HA'.out with h | h
        · subst h; simp at hlt
        · exact h
      obtain ⟨c0, c1, c2, c3, c4, c5, c6, c7, c8⟩ := (hin.below hbs hbl).getEn n hlt
      obtain ⟨d0, d1, d2, d3, d4, d5, d6, d7, d8⟩ := (hin'.below hbs' hbl).getEn n hlt
      have hb1 : b < wr.heap.size := Nat.lt_of_lt_of_le hbs hbl.size
      have hb2 : b' < wr.heap.size := Nat.lt_of_lt_of_le hbs' hbl.size
      have hi0 : (0 : Int) ≤ (n : Int) := by omega
      have hi1 : (n : Int) < (l.length : Int) := by omega
      go_wp2
      go_region_held3 (fun w' => w'.cell? ⟨b, o + n * 9, none⟩ = some (.int .i64 l[n].term) ∧ w'.cell? ⟨b, o + n * 9 + 1, none⟩ = some (.int .i64 l[n].who) ∧ w'.cell? ⟨b, o + n * 9 + 2, none⟩ = some (.int .i64 l[n].seq) ∧ w'.cell? ⟨b, o + n * 9 + 3, none⟩ = some (.int .i64 l[n].op) ∧ w'.cell? ⟨b, o + n * 9 + 4, none⟩ = some (.int .i64 l[n].a) ∧ w'.cell? ⟨b, o + n * 9 + 5, none⟩ = some (.int .i64 l[n].b) ∧ w'.cell? ⟨b, o + n * 9 + 6, none⟩ = some (.int .i64 l[n].c) ∧ w'.cell? ⟨b, o + n * 9 + 7, none⟩ = some (.string l[n].key) ∧ w'.cell? ⟨b, o + n * 9 + 8, none⟩ = some (.string l[n].text) ∧ w'.cell? ⟨b', o' + n * 9, none⟩ = some (.int .i64 l[n].term) ∧ w'.cell? ⟨b', o' + n * 9 + 1, none⟩ = some (.int .i64 l[n].who) ∧ w'.cell? ⟨b', o' + n * 9 + 2, none⟩ = some (.int .i64 l[n].seq) ∧ w'.cell? ⟨b', o' + n * 9 + 3, none⟩ = some (.int .i64 l[n].op) ∧ w'.cell? ⟨b', o' + n * 9 + 4, none⟩ = some (.int .i64 l[n].a) ∧ w'.cell? ⟨b', o' + n * 9 + 5, none⟩ = some (.int .i64 l[n].b) ∧ w'.cell? ⟨b', o' + n * 9 + 6, none⟩ = some (.int .i64 l[n].c) ∧ w'.cell? ⟨b', o' + n * 9 + 7, none⟩ = some (.string l[n].key) ∧ w'.cell? ⟨b', o' + n * 9 + 8, none⟩ = some (.string l[n].text) ∧ wr.heap.size ≤ w'.heap.size)
        (first | (go_split_ands; refine ⟨?_, ?_, ?_, ?_, ?_, ?_, ?_, ?_, ?_, ?_, ?_, ?_, ?_, ?_, ?_, ?_, ?_, ?_, ?_⟩ <;> first | assumption | exact (k1 _ _ hb1).trans (by assumption) | exact (k1 _ _ hb2).trans (by assumption) | exact s1 | (simp; done)) | go_keep)
        (first
          | (go_at_call 42; refine (eqEntry_same _ _ _ _ _ _ _ _ _ _).mono ?_; rintro e w1 ⟨rfl, g1⟩; obtain ⟨k1, m1⟩ := bcell g1; have s1 := g1.size))
      all_goals
        go_wp2
        exact ⟨⟨n + 1, by go_num, by omega, via0 g1 hbl.drew⟩, by simp [intOf]; omega⟩
    · go_wp2
      go_ret
      exact ⟨rfl, hbl⟩

end Go.Proofs.Ytclgdghfcjkhfaa.Gen
