/-
  The laws' szItem, szItemS and szRow: what is left is told, and where it is not below 0 the row's lengths are bounded. No condition but the length that every text has.
-/
import Derived.Test.YtclgdghfcjkhfaaGreatRows
import Derived.Test.YtclgdghfcjkhfaaGreatItems
namespace Go.Proofs.YtclgdghfcjkhfaaGreat.Items
open Go.ChangeShapes Go.WideShapes Go.ChangeAt Go.RowKit Base
set_option linter.unusedVariables false

theorem via0 {a b c : World} (k : Below b.heap.size b c) (h : Below a.heap.size a b) : Below a.heap.size a c := h.trans (k.mono h.size)
theorem alloc0 {a b : World} (h : Below a.heap.size a b) (o : Obj) : Below a.heap.size a (b.alloc o) := h.alloc h.size o

def szI (k t : Nat) (left : Int) : Int := if left < k then -1 else if left < k + t then -1 else left - k - t

theorem szItem_any (off who time : Int) (k t : ByteArray) (left : Int) (h0 : 0 ≤ left) (h1 : left ≤ 1048576) (hk : k.size ≤ 9223372036854775807) (ht : t.size ≤ 9223372036854775807) (w : World) :
    Calls Tryz.prog 173 #[.agg #[.int .i64 off, .string k, .string t, .int .i64 who, .int .i64 time], .int .i64 left] w fun e w' => e = .returned (.int .i64 (szI k.size t.size left)) ∧ Below w.heap.size w w' := by
  by_cases h1 : left < k.size
  · have g1 : left - (k.size : Int) < 0 := by omega
    have e1 : szI k.size t.size left = -1 := by simp [szI, h1]
    rw [e1]
    go_enter Tryz.func173, Tryz.ntmps173
    go_wp2
    go_ret
    exact ⟨rfl, by repeat (first | exact Below.refl _ _ | refine via0 (by assumption) ?_ | refine Below.drew ?_ | refine alloc0 ?_ _)⟩
  · have g1 : ¬ left - (k.size : Int) < 0 := by omega
    by_cases h2 : left < k.size + t.size
    · have g2 : left - (k.size : Int) - (t.size : Int) < 0 := by omega
      have e1 : szI k.size t.size left = -1 := by simp [szI, h1, h2]
      rw [e1]
      go_enter Tryz.func173, Tryz.ntmps173
      go_wp2
      go_ret
      exact ⟨rfl, by repeat (first | exact Below.refl _ _ | refine via0 (by assumption) ?_ | refine Below.drew ?_ | refine alloc0 ?_ _)⟩
    · have g2 : ¬ left - (k.size : Int) - (t.size : Int) < 0 := by omega
      have e1 : szI k.size t.size left = left - k.size - t.size := by simp [szI, h1, h2]
      rw [e1]
      go_enter Tryz.func173, Tryz.ntmps173
      go_wp2
      go_ret
      exact ⟨rfl, by repeat (first | exact Below.refl _ _ | refine via0 (by assumption) ?_ | refine Below.drew ?_ | refine alloc0 ?_ _)⟩

theorem szI_ge {k t : Nat} {left : Int} (h0 : 0 ≤ left) (h : 0 ≤ szI k t left) : szI k t left = left - k - t := by
  unfold szI at h ⊢
  split at h
  · omega
  · split at h
    · omega
    · rw [if_neg (by assumption), if_neg (by assumption)]

/-- The bytes of the items' texts. -/
def tot : List It → Nat
  | [] => 0
  | x :: l => x.key.size + x.text.size + tot l
theorem tot_append (l m : List It) : tot (l ++ m) = tot l + tot m := by
  induction l with
  | nil => simp [tot]
  | cons x l ih => simp only [List.cons_append, tot, ih]; omega
theorem tot_take {l : List It} {n : Nat} (h : n < l.length) : tot (l.take (n + 1)) = tot (l.take n) + (l[n].key.size + l[n].text.size) := by
  rw [List.take_succ_eq_append_getElem h, tot_append]; simp [tot]

theorem szItemS_at (A : Option Addr) (cap : Nat) (l : List It) (hl : l.length ≤ 9223372036854775807) (hs : ∀ x ∈ l, x.key.size ≤ 9223372036854775807 ∧ x.text.size ≤ 9223372036854775807) (left : Int) (hl0 : 0 ≤ left) (hl1 : left ≤ 1048576) (w : World)
    (hA : l = [] ∨ ∃ b o, A = some ⟨b, o, none⟩ ∧ b < w.heap.size ∧ In w b o l) :
    Calls Tryz.prog 146 #[.slice A l.length cap, .int .i64 left] w fun e w' => ∃ r : Int, e = .returned (.int .i64 r) ∧ (r = -1 ∨ (0 ≤ r ∧ r = left - l.length - tot l)) ∧ Below w.heap.size w w' := by
  by_cases hb : left - (l.length : Int) < 0
  · go_enter Tryz.func146, Tryz.ntmps146
    go_wp2
    go_ret
    exact ⟨-1, rfl, .inl rfl, Below.refl _ _⟩
  · have HA : Hid (l = [] ∨ ∃ b o, A = some ⟨b, o, none⟩ ∧ b < w.heap.size ∧ In w b o l) := hA
    clear hA
    go_enter Tryz.func146, Tryz.ntmps146
    go_wp2
    go_loopw [1, 5] (fun le i w' => ∃ (n : Nat) (r : Int), i = .int .i64 (n : Int) ∧ le = .int .i64 r ∧ n ≤ l.length ∧ 0 ≤ r ∧ r ≤ 1048576 ∧ Hid (r = left - l.length - tot (l.take n)) ∧ Below w.heap.size w w') (fun _ i _ => l.length - (intOf i).toNat)
    case atStart => exact ⟨0, _, rfl, rfl, by omega, by omega, by omega, by simp [tot, Hid], Below.refl _ _⟩
    case round =>
      obtain ⟨n, r, rfl, rfl, hn, h0, h1, hr, hbl⟩ := hrel
      by_cases hlt : n < l.length
      · obtain ⟨b, o, rfl, hbs, hin⟩ : ∃ b o, A = some ⟨b, o, none⟩ ∧ b < w.heap.size ∧ In w b o l := by
          rcases HA.out with h | h
          · subst h; simp at hlt
          · exact h
        obtain ⟨hc0, hc1, hc2, hc3, hc4⟩ := (hin.below hbs hbl).get n hlt
        obtain ⟨hk, ht⟩ := hs l[n] (List.getElem_mem hlt)
        have HT := tot_take hlt
        go_wp2_with (go_at_call 173; refine (szItem_any _ _ _ _ _ _ h0 h1 hk ht _).mono ?_; rintro e w1 ⟨rfl, g1⟩)
        · go_ret
          exact ⟨-1, rfl, .inl rfl, via0 g1 hbl⟩
        · have hge : 0 ≤ szI l[n].key.size l[n].text.size r := by assumption
          have he := szI_ge h0 hge
          refine ⟨⟨n + 1, szI l[n].key.size l[n].text.size r, by go_num, rfl, by omega, hge, by omega, ?_, via0 g1 hbl⟩, by simp [intOf]; omega⟩
          have hr' := hr.out
          show szI l[n].key.size l[n].text.size r = left - l.length - tot (l.take (n + 1))
          rw [HT, he, hr']
          omega
      · have e : l.take n = l := List.take_of_length_le (by omega)
        go_wp2
        go_ret
        exact ⟨r, rfl, .inr ⟨h0, by have := hr.out; rw [e] at this; exact this⟩, hbl⟩

theorem szItemS_any (A : Option Addr) (cap : Nat) (l : List It) (hl : l.length ≤ 9223372036854775807) (hs : ∀ x ∈ l, x.key.size ≤ 9223372036854775807 ∧ x.text.size ≤ 9223372036854775807) (w : World)
    (hA : l = [] ∨ ∃ b o, A = some ⟨b, o, none⟩ ∧ b < w.heap.size ∧ In w b o l) :
    Calls Tryz.prog 146 #[.slice A l.length cap, .int .i64 1048576] w fun e w' => ∃ r : Int, e = .returned (.int .i64 r) ∧ (r = -1 ∨ (0 ≤ r ∧ r = 1048576 - l.length - tot l)) ∧ Below w.heap.size w w' :=
  szItemS_at A cap l hl hs 1048576 (by omega) (by omega) w hA

theorem szRow_at (start next : Int) (A : Option Addr) (cap : Nat) (l : List It) (hl : l.length ≤ 9223372036854775807) (hs : ∀ x ∈ l, x.key.size ≤ 9223372036854775807 ∧ x.text.size ≤ 9223372036854775807) (left : Int) (hl0 : 0 ≤ left) (hl1 : left ≤ 1048576) (w : World)
    (hA : l = [] ∨ ∃ b o, A = some ⟨b, o, none⟩ ∧ b < w.heap.size ∧ In w b o l) :
    Calls Tryz.prog 96 #[.agg #[.int .i64 start, .int .i64 next, .slice A l.length cap], .int .i64 left] w fun e w' => ∃ r : Int, e = .returned (.int .i64 r) ∧ (r < 0 ∨ (0 ≤ r ∧ r = left - l.length - tot l)) ∧ Below w.heap.size w w' := by
  have hA' : ∀ ob : Obj, l = [] ∨ ∃ b o, A = some ⟨b, o, none⟩ ∧ b < (w.alloc ob).heap.size ∧ In (w.alloc ob) b o l := fun ob => by
    rcases hA with h | ⟨b, o, h1, h2, h3⟩
    · exact .inl h
    · exact .inr ⟨b, o, h1, by simp; omega, h3.below h2 (alloc0 (Below.refl _ _) ob)⟩
  have HA : Hid (∀ ob : Obj, l = [] ∨ ∃ b o, A = some ⟨b, o, none⟩ ∧ b < (w.alloc ob).heap.size ∧ In (w.alloc ob) b o l) := hA'
  clear hA hA'
  go_enter Tryz.func96, Tryz.ntmps96
  go_wp2_with (go_at_call 146; refine (szItemS_at A cap l hl hs left hl0 hl1 _ (HA.out _)).mono ?_; rintro e w1 ⟨r, rfl, hr, g1⟩; have HR : Hid (r = -1 ∨ (0 ≤ r ∧ r = left - l.length - tot l)) := hr; clear hr)
  · go_ret
    refine ⟨-1, rfl, .inl (by omega), ?_⟩
    repeat (first | exact Below.refl _ _ | refine via0 (by assumption) ?_ | refine Below.drew ?_ | refine alloc0 ?_ _)
  · go_ret
    refine ⟨r, rfl, ?_, ?_⟩
    · rcases HR.out with h | h
      · omega
      · exact .inr h
    · repeat (first | exact Below.refl _ _ | refine via0 (by assumption) ?_ | refine Below.drew ?_ | refine alloc0 ?_ _)
theorem szRow_any (start next : Int) (A : Option Addr) (cap : Nat) (l : List It) (hl : l.length ≤ 9223372036854775807) (hs : ∀ x ∈ l, x.key.size ≤ 9223372036854775807 ∧ x.text.size ≤ 9223372036854775807) (w : World)
    (hA : l = [] ∨ ∃ b o, A = some ⟨b, o, none⟩ ∧ b < w.heap.size ∧ In w b o l) :
    Calls Tryz.prog 96 #[.agg #[.int .i64 start, .int .i64 next, .slice A l.length cap], .int .i64 1048576] w fun e w' => ∃ r : Int, e = .returned (.int .i64 r) ∧ (r < 0 ∨ (0 ≤ r ∧ r = 1048576 - l.length - tot l)) ∧ Below w.heap.size w w' :=
  szRow_at start next A cap l hl hs 1048576 (by omega) (by omega) w hA
end Go.Proofs.YtclgdghfcjkhfaaGreat.Items
