/-
  Lists read by the program's reader: so many values one behind the other; where one is none, it panics. Condition: at most 1048576 bytes, and each value takes at least one.
-/
import Derived.Test.YtjjbbkmedpfenaaGreatRd
import Derived.Test.YtjjbbkmedpfenaaGreatRowList
import Derived.Test.YtjjbbkmedpfenaaGreatRows
import Derived.Test.YtjjbbkmedpfenaaGreatBase
import Derived.Test.YtjjbbkmedpfenaaGreatOpen
import Derived.Test.YtjjbbkmedpfenaaGreatGen
import Derived.Test.YtjjbbkmedpfenaaGreatMarkText
import Derived.Deep.RegionHeld3
namespace Go.Proofs.YtjjbbkmedpfenaaGreat.Gen
open Go.ChangeShapes Go.WideShapes Go.ChangeAt Go.RowKit Go.Joins Go.Deep Base
open Items (It)
set_option linter.unusedVariables false
set_option linter.unusedSimpArgs false

def isMk (x : Mk) (v : Value) (_ : World) : Prop := v = .agg #[.int .i64 x.seq, .int .i64 x.off]
set_option maxRecDepth 100000 in
set_option maxHeartbeats 2000000 in
theorem readManyMk_any (get : Int → Option (Mk × Nat)) (r : Nat) (A : Option Addr) (cap : Nat) (l : List UInt8) (hl : l.length ≤ 1048576) (hget : ∀ (i : Nat) x c, get (i : Int) = some (x, c) → i < c ∧ c ≤ l.length)
    (HF : ∀ (i : Nat) (W : World), Rd W r A cap l (i : Int) → Calls Tryz.prog 90 #[.pointer (some ⟨r, 0, none⟩)] W fun e w' => Reads isMk r A cap l W e w' (get (i : Int))) (n : Nat) (hn : n ≤ 2147483647) (c0 : Nat) (w : World) (h : Rd w r A cap l (c0 : Int)) :
    Calls Tryz.prog 106 #[.pointer (some ⟨r, 0, none⟩), .int .i64 (n : Int), .func (.func 90) #[] #[]] w fun e w' => Reads (isList 120 w.heap.size) r A cap l w e w' (getMany get n c0) := by
  have Hget := hidP hget
  have HF' := hidP HF
  obtain ⟨hr, hfar⟩ := h.far'
  have K0 : Hid (RL (α := Mk) 120 w w r A cap l c0 (.slice none 0 0) []) := ⟨h, Only.refl _ _, World.ownsRow_nil _ _ _ _, hr, hfar⟩
  clear h hget HF hr hfar
  go_enter Tryz.func106, Tryz.ntmps106
  go_wp2
  go_loopw [7, 9] (fun v i W => ∃ (k c cp : Nat) (a : Option Addr) (xs : List Mk), i = .int .i64 (k : Int) ∧ v = .slice a (List.length xs) cp ∧ k ≤ n ∧ Hid (xs.length = k ∧ (k = 0 ∨ k ≤ c ∧ c ≤ l.length)) ∧ Hid (RL 120 w W r A cap l c (.slice a xs.length cp) xs) ∧ Hid (getMany get n c0 = addTo xs (getMany get (n - k) c))) (fun _ i _ => n - (intOf i).toNat)
  case atStart => exact ⟨0, c0, 0, none, [], rfl, rfl, by omega, ⟨rfl, .inl rfl⟩, K0, by show _ = _; simp [addTo]⟩
  case round =>
    clear K0
    obtain ⟨k, c, cp, a, xs, rfl, rfl, hk, hkc, KK, hm⟩ := hrel
    by_cases hlt : k < n
    · have hlt' : (k : Int) < (n : Int) := by omega
      obtain ⟨m, hm1⟩ : ∃ m, n - k = m + 1 := ⟨n - k - 1, by omega⟩
      have hm2 : Hid (n - (k + 1) = m) := by show _ = _; omega
      rw [hm1] at hm
      clear hm1
      go_wp2_with fail
      refine (HF'.out c _ KK.out.rd).mono ?_
      intro e w1 h1
      cases hx : get (c : Int) with
      | none =>
        rw [hx] at h1
        obtain ⟨o1, t, v, rfl⟩ := h1
        refine ⟨rfl, ?_⟩
        rw [hm.out, many_none xs hx]
        exact ⟨only_trans KK.out.only o1, t, v, rfl⟩
      | some p =>
        obtain ⟨x, d⟩ := p
        rw [hx] at h1
        obtain ⟨o1, r1, v, rfl, rfl⟩ := h1
        have hgd := Hget.out c x d hx
        have hxl : xs.length ≤ 2000000 := by have := hkc.out; omega
        obtain ⟨a2, c2, W2, hr, K2⟩ := RL.app (P := Tryz.prog) (z := .agg #[.int .i64 0, .int .i64 0]) Tryz.underlying69 infoMk rfl (by decide) (by decide) KK.out o1 r1 x #[.int .i64 x.seq, .int .i64 x.off] rfl hxl
        have hm' := hidP (hm.out.trans (many_some xs hx))
        have hkc' : Hid ((xs ++ [x]).length = k + 1 ∧ (k + 1 = 0 ∨ k + 1 ≤ d ∧ d ≤ l.length)) := by
          show _ ∧ _
          have := hkc.out
          exact ⟨by simp; omega, .inr (by omega)⟩
        have K2' : Hid (RL 120 w W2 r A cap l d (.slice a2 (xs ++ [x]).length c2) (xs ++ [x])) := by show RL _ _ _ _ _ _ _ _ _ _; rw [List.length_append]; exact K2
        clear KK K2 hm hkc o1 r1 hx hgd hxl
        go_wp2_with (at_builtin; refine wpList_append_is rfl _ _ _ rfl _ _ _ rfl rfl hr ?_)
        exact ⟨⟨k + 1, d, c2, a2, xs ++ [x], by go_num, by rw [List.length_append]; rfl, by omega, hkc', K2', by show _ = _; rw [hm2.out]; exact hm'.out⟩, by simp [intOf]; omega⟩
    · obtain rfl : k = n := by omega
      go_wp2
      go_ret
      rw [hm.out, Nat.sub_self, many_end]
      exact ⟨KK.out.only, KK.out.rd, _, rfl, a, cp, rfl, KK.out.own⟩

def isIt (x : It) (v : Value) (_ : World) : Prop := v = .agg #[.int .i64 x.off, .string x.key, .string x.text, .int .i64 x.who, .int .i64 x.time]
set_option maxRecDepth 100000 in
set_option maxHeartbeats 2000000 in
theorem readManyIt_any (get : Int → Option (It × Nat)) (r : Nat) (A : Option Addr) (cap : Nat) (l : List UInt8) (hl : l.length ≤ 1048576) (hget : ∀ (i : Nat) x c, get (i : Int) = some (x, c) → i < c ∧ c ≤ l.length)
    (HF : ∀ (i : Nat) (W : World), Rd W r A cap l (i : Int) → Calls Tryz.prog 87 #[.pointer (some ⟨r, 0, none⟩)] W fun e w' => Reads isIt r A cap l W e w' (get (i : Int))) (n : Nat) (hn : n ≤ 2147483647) (c0 : Nat) (w : World) (h : Rd w r A cap l (c0 : Int)) :
    Calls Tryz.prog 105 #[.pointer (some ⟨r, 0, none⟩), .int .i64 (n : Int), .func (.func 87) #[] #[]] w fun e w' => Reads (isList 118 w.heap.size) r A cap l w e w' (getMany get n c0) := by
  have Hget := hidP hget
  have HF' := hidP HF
  obtain ⟨hr, hfar⟩ := h.far'
  have K0 : Hid (RL (α := It) 118 w w r A cap l c0 (.slice none 0 0) []) := ⟨h, Only.refl _ _, World.ownsRow_nil _ _ _ _, hr, hfar⟩
  clear h hget HF hr hfar
  go_enter Tryz.func105, Tryz.ntmps105
  go_wp2
  go_loopw [7, 9] (fun v i W => ∃ (k c cp : Nat) (a : Option Addr) (xs : List It), i = .int .i64 (k : Int) ∧ v = .slice a (List.length xs) cp ∧ k ≤ n ∧ Hid (xs.length = k ∧ (k = 0 ∨ k ≤ c ∧ c ≤ l.length)) ∧ Hid (RL 118 w W r A cap l c (.slice a xs.length cp) xs) ∧ Hid (getMany get n c0 = addTo xs (getMany get (n - k) c))) (fun _ i _ => n - (intOf i).toNat)
  case atStart => exact ⟨0, c0, 0, none, [], rfl, rfl, by omega, ⟨rfl, .inl rfl⟩, K0, by show _ = _; simp [addTo]⟩
  case round =>
    clear K0
    obtain ⟨k, c, cp, a, xs, rfl, rfl, hk, hkc, KK, hm⟩ := hrel
    by_cases hlt : k < n
    · have hlt' : (k : Int) < (n : Int) := by omega
      obtain ⟨m, hm1⟩ : ∃ m, n - k = m + 1 := ⟨n - k - 1, by omega⟩
      have hm2 : Hid (n - (k + 1) = m) := by show _ = _; omega
      rw [hm1] at hm
      clear hm1
      go_wp2_with fail
      refine (HF'.out c _ KK.out.rd).mono ?_
      intro e w1 h1
      cases hx : get (c : Int) with
      | none =>
        rw [hx] at h1
        obtain ⟨o1, t, v, rfl⟩ := h1
        refine ⟨rfl, ?_⟩
        rw [hm.out, many_none xs hx]
        exact ⟨only_trans KK.out.only o1, t, v, rfl⟩
      | some p =>
        obtain ⟨x, d⟩ := p
        rw [hx] at h1
        obtain ⟨o1, r1, v, rfl, rfl⟩ := h1
        have hgd := Hget.out c x d hx
        have hxl : xs.length ≤ 2000000 := by have := hkc.out; omega
        obtain ⟨a2, c2, W2, hr, K2⟩ := RL.app (P := Tryz.prog) (z := Items.zeroItem) Tryz.underlying65 Items.infoItem rfl (by decide) (by decide) KK.out o1 r1 x #[.int .i64 x.off, .string x.key, .string x.text, .int .i64 x.who, .int .i64 x.time] rfl hxl
        have hm' := hidP (hm.out.trans (many_some xs hx))
        have hkc' : Hid ((xs ++ [x]).length = k + 1 ∧ (k + 1 = 0 ∨ k + 1 ≤ d ∧ d ≤ l.length)) := by
          show _ ∧ _
          have := hkc.out
          exact ⟨by simp; omega, .inr (by omega)⟩
        have K2' : Hid (RL 118 w W2 r A cap l d (.slice a2 (xs ++ [x]).length c2) (xs ++ [x])) := by show RL _ _ _ _ _ _ _ _ _ _; rw [List.length_append]; exact K2
        clear KK K2 hm hkc o1 r1 hx hgd hxl
        go_wp2_with (at_builtin; refine wpList_append_is rfl _ _ _ rfl _ _ _ rfl rfl hr ?_)
        exact ⟨⟨k + 1, d, c2, a2, xs ++ [x], by go_num, by rw [List.length_append]; rfl, by omega, hkc', K2', by show _ = _; rw [hm2.out]; exact hm'.out⟩, by simp [intOf]; omega⟩
    · obtain rfl : k = n := by omega
      go_wp2
      go_ret
      rw [hm.out, Nat.sub_self, many_end]
      exact ⟨KK.out.only, KK.out.rd, _, rfl, a, cp, rfl, KK.out.own⟩

def isIn (x : Int) (v : Value) (_ : World) : Prop := v = .int .i64 x
set_option maxRecDepth 100000 in
set_option maxHeartbeats 2000000 in
theorem readManyIn_any (get : Int → Option (Int × Nat)) (r : Nat) (A : Option Addr) (cap : Nat) (l : List UInt8) (hl : l.length ≤ 1048576) (hget : ∀ (i : Nat) x c, get (i : Int) = some (x, c) → i < c ∧ c ≤ l.length)
    (HF : ∀ (i : Nat) (W : World), Rd W r A cap l (i : Int) → Calls Tryz.prog 54 #[.pointer (some ⟨r, 0, none⟩)] W fun e w' => Reads isIn r A cap l W e w' (get (i : Int))) (n : Nat) (hn : n ≤ 9223372036854775807) (c0 : Nat) (w : World) (h : Rd w r A cap l (c0 : Int)) :
    Calls Tryz.prog 92 #[.pointer (some ⟨r, 0, none⟩), .int .i64 (n : Int), .func (.func 54) #[] #[]] w fun e w' => Reads (isList 3 w.heap.size) r A cap l w e w' (getMany get n c0) := by
  have Hget := hidP hget
  have HF' := hidP HF
  obtain ⟨hr, hfar⟩ := h.far'
  have K0 : Hid (RL (α := Int) 3 w w r A cap l c0 (.slice none 0 0) []) := ⟨h, Only.refl _ _, World.ownsRow_nil _ _ _ _, hr, hfar⟩
  clear h hget HF hr hfar
  go_enter Tryz.func92, Tryz.ntmps92
  go_wp2
  go_loopw [7, 9] (fun v i W => ∃ (k c cp : Nat) (a : Option Addr) (xs : List Int), i = .int .i64 (k : Int) ∧ v = .slice a (List.length xs) cp ∧ k ≤ n ∧ Hid (xs.length = k ∧ (k = 0 ∨ k ≤ c ∧ c ≤ l.length)) ∧ Hid (RL 3 w W r A cap l c (.slice a xs.length cp) xs) ∧ Hid (getMany get n c0 = addTo xs (getMany get (n - k) c))) (fun _ i _ => n - (intOf i).toNat)
  case atStart => exact ⟨0, c0, 0, none, [], rfl, rfl, by omega, ⟨rfl, .inl rfl⟩, K0, by show _ = _; simp [addTo]⟩
  case round =>
    clear K0
    obtain ⟨k, c, cp, a, xs, rfl, rfl, hk, hkc, KK, hm⟩ := hrel
    by_cases hlt : k < n
    · have hlt' : (k : Int) < (n : Int) := by omega
      obtain ⟨m, hm1⟩ : ∃ m, n - k = m + 1 := ⟨n - k - 1, by omega⟩
      have hm2 : Hid (n - (k + 1) = m) := by show _ = _; omega
      rw [hm1] at hm
      clear hm1
      go_wp2_with fail
      refine (HF'.out c _ KK.out.rd).mono ?_
      intro e w1 h1
      cases hx : get (c : Int) with
      | none =>
        rw [hx] at h1
        obtain ⟨o1, t, v, rfl⟩ := h1
        refine ⟨rfl, ?_⟩
        rw [hm.out, many_none xs hx]
        exact ⟨only_trans KK.out.only o1, t, v, rfl⟩
      | some p =>
        obtain ⟨x, d⟩ := p
        rw [hx] at h1
        obtain ⟨o1, r1, v, rfl, rfl⟩ := h1
        have hgd := Hget.out c x d hx
        have hxl : xs.length ≤ 2000000 := by have := hkc.out; omega
        obtain ⟨a2, c2, W2, hr, K2⟩ := RL.app (P := Tryz.prog) (z := .int .i64 0) Tryz.underlying28 infoInt rfl (by decide) (by decide) KK.out o1 r1 x #[.int .i64 x] rfl hxl
        have hm' := hidP (hm.out.trans (many_some xs hx))
        have hkc' : Hid ((xs ++ [x]).length = k + 1 ∧ (k + 1 = 0 ∨ k + 1 ≤ d ∧ d ≤ l.length)) := by
          show _ ∧ _
          have := hkc.out
          exact ⟨by simp; omega, .inr (by omega)⟩
        have K2' : Hid (RL 3 w W2 r A cap l d (.slice a2 (xs ++ [x]).length c2) (xs ++ [x])) := by show RL _ _ _ _ _ _ _ _ _ _; rw [List.length_append]; exact K2
        clear KK K2 hm hkc o1 r1 hx hgd hxl
        go_wp2_with (at_builtin; refine wpList_append_is rfl _ _ _ rfl _ _ _ rfl rfl hr ?_)
        exact ⟨⟨k + 1, d, c2, a2, xs ++ [x], by go_num, by rw [List.length_append]; rfl, by omega, hkc', K2', by show _ = _; rw [hm2.out]; exact hm'.out⟩, by simp [intOf]; omega⟩
    · obtain rfl : k = n := by omega
      go_wp2
      go_ret
      rw [hm.out, Nat.sub_self, many_end]
      exact ⟨KK.out.only, KK.out.rd, _, rfl, a, cp, rfl, KK.out.own⟩
set_option maxRecDepth 100000 in
theorem readManyIn_neg (r : Nat) (A : Option Addr) (cap : Nat) (l : List UInt8) (n : Int) (hn : n < 0) (c0 : Nat) (w : World) (h : Rd w r A cap l (c0 : Int)) :
    Calls Tryz.prog 92 #[.pointer (some ⟨r, 0, none⟩), .int .i64 n, .func (.func 54) #[] #[]] w fun e w' => Reads (isList (α := Int) 3 w.heap.size) r A cap l w e w' (some ([], c0)) := by
  have HC := hidP h
  clear h
  have hn0 : ¬ (0 : Int) < n := by omega
  go_enter Tryz.func92, Tryz.ntmps92
  go_wp2
  go_loopw [7, 9] (fun v i W => i = .int .i64 0 ∧ v = .slice none 0 0 ∧ W = w) (fun _ i _ => 0)
  case atStart => exact ⟨rfl, rfl, rfl⟩
  case round =>
    obtain ⟨rfl, rfl, rfl⟩ := hrel
    go_wp2
    go_ret
    exact ⟨Only.refl _ _, HC.out, _, rfl, none, 0, rfl, World.ownsRow_nil _ _ _ _⟩

end Go.Proofs.YtjjbbkmedpfenaaGreat.Gen

/-
  Numbers within limits and plain texts, as the specification tells them. No condition but the length that every text has.
-/
namespace Go.Proofs.YtjjbbkmedpfenaaGreat.Items
open Go.ChangeShapes Go.WideShapes Go.ChangeAt Go.RowKit Base
set_option linter.unusedVariables false

def inB (x lo hi : Int) : Bool := decide (lo ≤ x ∧ x ≤ hi)

theorem in_any (x lo hi : Int) (w : World) :
    Calls Tryz.prog 35 #[.int .i64 x, .int .i64 lo, .int .i64 hi] w fun e w' => e = .returned (.bool (inB x lo hi)) ∧ w' = w := by
  by_cases h1 : lo ≤ x <;> by_cases h2 : x ≤ hi <;>
  · go_enter Tryz.func35, Tryz.ntmps35
    go_wp2
    go_ret
    exact ⟨by simp [inB, h1, h2], rfl⟩

def plainN (x : Nat) : Bool := decide ((97 ≤ x ∧ x ≤ 122) ∨ (48 ≤ x ∧ x ≤ 57) ∨ x = 32)

theorem plain_ways (x : Nat) :
    ((97 : Int) ≤ x ∧ (x : Int) ≤ 122 ∧ plainN x = true) ∨ ((97 : Int) ≤ x ∧ ¬ (x : Int) ≤ 122 ∧ (48 : Int) ≤ x ∧ ¬ (x : Int) ≤ 57 ∧ ((x : Int) == 32) = false ∧ plainN x = false) ∨
    (¬ (97 : Int) ≤ x ∧ (48 : Int) ≤ x ∧ (x : Int) ≤ 57 ∧ plainN x = true) ∨ (¬ (97 : Int) ≤ x ∧ (48 : Int) ≤ x ∧ ¬ (x : Int) ≤ 57 ∧ ((x : Int) == 32) = false ∧ plainN x = false) ∨
    (¬ (97 : Int) ≤ x ∧ ¬ (48 : Int) ≤ x ∧ ((x : Int) == 32) = true ∧ plainN x = true) ∨ (¬ (97 : Int) ≤ x ∧ ¬ (48 : Int) ≤ x ∧ ((x : Int) == 32) = false ∧ plainN x = false) := by
  simp only [beq_eq_false_iff_ne, beq_iff_eq, ne_eq, plainN, decide_eq_true_eq, decide_eq_false_iff_not]
  omega

/-- From byte i on all are plain. -/
def allFrom (s : ByteArray) (i : Nat) : Bool := (s.data.toList.drop i).all (fun x => plainN x.toNat)

def textB (s : ByteArray) : Bool := allFrom s 0 && decide (s.size ≤ 30)

theorem allFrom_end {s : ByteArray} {i : Nat} (h : s.size ≤ i) : allFrom s i = true := by
  have : s.data.toList.drop i = [] := List.drop_eq_nil_of_le (by simpa using h)
  simp [allFrom, this]
theorem allFrom_step {s : ByteArray} {i : Nat} (h : i < s.size) : allFrom s i = (plainN (s[i]'h).toNat && allFrom s (i + 1)) := by
  have h' : i < s.data.toList.length := by simpa using h
  unfold allFrom
  rw [List.drop_eq_getElem_cons h', List.all_cons]
  rfl

theorem specText_any (s : ByteArray) (hs : s.size ≤ 9223372036854775807) (w : World) :
    Calls Tryz.prog 83 #[.string s] w fun e w' => e = .returned (.bool (textB s)) ∧ Below w.heap.size w w' := by
  go_enter Tryz.func83, Tryz.ntmps83
  go_wp2
  go_loopw [3] (fun i w' => ∃ n : Nat, i = .int .i64 (n : Int) ∧ n ≤ s.size ∧ allFrom s n = allFrom s 0 ∧ Below w.heap.size w w') (fun i _ => s.size - (intOf i).toNat)
  case atStart => exact ⟨0, rfl, by omega, rfl, Below.refl _ _⟩
  case round =>
    obtain ⟨n, rfl, hn, hE, hb⟩ := hrel
    by_cases hlt : n < s.size
    · have hst := allFrom_step hlt
      rcases plain_ways s[n].toNat with ⟨h1, h2, hp⟩ | ⟨h1, h2, h3, h4, h5, hp⟩ | ⟨h1, h2, h3, hp⟩ | ⟨h1, h2, h3, h4, hp⟩ | ⟨h1, h2, h3, hp⟩ | ⟨h1, h2, h3, hp⟩
      · have hE' : allFrom s (n + 1) = allFrom s 0 := by rw [← hE, hst, hp]; rfl
        clear hE hst hp
        go_wp2
        exact ⟨⟨n + 1, by go_num, by omega, hE', hb⟩, by simp [intOf]; omega⟩
      · have hE' : textB s = false := by
          have h0 : allFrom s 0 = false := by rw [← hE, hst, hp]; rfl
          simp [textB, h0]
        clear hE hst hp
        go_wp2
        go_ret
        exact ⟨by first | rfl | (rw [hE']; rfl), hb⟩
      · have hE' : allFrom s (n + 1) = allFrom s 0 := by rw [← hE, hst, hp]; rfl
        clear hE hst hp
        go_wp2
        exact ⟨⟨n + 1, by go_num, by omega, hE', hb⟩, by simp [intOf]; omega⟩
      · have hE' : textB s = false := by
          have h0 : allFrom s 0 = false := by rw [← hE, hst, hp]; rfl
          simp [textB, h0]
        clear hE hst hp
        go_wp2
        go_ret
        exact ⟨by first | rfl | (rw [hE']; rfl), hb⟩
      · have hE' : allFrom s (n + 1) = allFrom s 0 := by rw [← hE, hst, hp]; rfl
        clear hE hst hp
        go_wp2
        exact ⟨⟨n + 1, by go_num, by omega, hE', hb⟩, by simp [intOf]; omega⟩
      · have hE' : textB s = false := by
          have h0 : allFrom s 0 = false := by rw [← hE, hst, hp]; rfl
          simp [textB, h0]
        clear hE hst hp
        go_wp2
        go_ret
        exact ⟨by first | rfl | (rw [hE']; rfl), hb⟩
    · have hE' : allFrom s 0 = true := by rw [← hE, allFrom_end (by omega)]
      have hE2 : textB s = decide (s.size ≤ 30) := by simp [textB, hE']
      by_cases hl : (s.size : Int) ≤ 30
      · have : s.size ≤ 30 := by omega
        go_wp2
        go_ret
        exact ⟨by first | (rw [hE2]; simp [this]; done) | simp, hb⟩
      · have : ¬ s.size ≤ 30 := by omega
        go_wp2
        go_ret
        exact ⟨by first | (rw [hE2]; simp [this]; done) | simp, hb⟩

end Go.Proofs.YtjjbbkmedpfenaaGreat.Items

/-
  Numbers within limits and plain texts, as the program tells them. No condition but the length that every text has.
-/
namespace Go.Proofs.YtjjbbkmedpfenaaGreat.Items
open Go.ChangeShapes Go.WideShapes Go.ChangeAt Go.RowKit Base
set_option linter.unusedVariables false

theorem within_any (x lo hi : Int) (w : World) :
    Calls Tryz.prog 66 #[.int .i64 x, .int .i64 lo, .int .i64 hi] w fun e w' => e = .returned (.bool (inB x lo hi)) ∧ w' = w := by
  by_cases h1 : lo ≤ x <;> by_cases h2 : x ≤ hi <;>
  · go_enter Tryz.func66, Tryz.ntmps66
    go_wp2
    go_ret
    exact ⟨by simp [inB, h1, h2], rfl⟩

theorem plain_any (x : Nat) (w : World) :
    Calls Tryz.prog 109 #[.int .u8 (x : Int)] w fun e w' => e = .returned (.bool (plainN x)) ∧ w' = w := by
  rcases plain_ways x with ⟨h1, h2, hp⟩ | ⟨h1, h2, h3, h4, h5, hp⟩ | ⟨h1, h2, h3, hp⟩ | ⟨h1, h2, h3, h4, hp⟩ | ⟨h1, h2, h3, hp⟩ | ⟨h1, h2, h3, hp⟩ <;>
  · rw [hp]
    go_enter Tryz.func109, Tryz.ntmps109
    go_wp2
    go_ret
    exact ⟨rfl, rfl⟩

theorem implText_any (s : ByteArray) (hs : s.size ≤ 9223372036854775807) (w : World) :
    Calls Tryz.prog 102 #[.string s] w fun e w' => e = .returned (.bool (textB s)) ∧ Below w.heap.size w w' := by
  by_cases hl : (s.size : Int) > 30
  · have e1 : textB s = false := by simp [textB]; omega
    rw [e1]
    go_enter Tryz.func102, Tryz.ntmps102
    go_wp2
    go_ret
    exact ⟨rfl, Below.refl _ _⟩
  · have e1 : textB s = allFrom s 0 := by simp [textB]; omega
    rw [e1]
    go_enter Tryz.func102, Tryz.ntmps102
    go_wp2
    go_loopw [3] (fun i w' => ∃ n : Nat, i = .int .i64 (n : Int) ∧ n ≤ s.size ∧ allFrom s n = allFrom s 0 ∧ Below w.heap.size w w') (fun i _ => s.size - (intOf i).toNat)
    case atStart => exact ⟨0, rfl, by omega, rfl, Below.refl _ _⟩
    case round =>
      obtain ⟨n, rfl, hn, hE, hb⟩ := hrel
      by_cases hlt : n < s.size
      · have hst := allFrom_step hlt
        cases hp : plainN s[n].toNat
        · have hE' : allFrom s 0 = false := by rw [← hE, hst, hp]; rfl
          clear hE hst
          go_wp2_with (go_at_call 109; refine (plain_any _ _).mono ?_; rintro e w' ⟨rfl, rfl⟩)
          go_ret
          exact ⟨by first | rfl | (rw [hE']; rfl), hb⟩
        · have hE' : allFrom s (n + 1) = allFrom s 0 := by rw [← hE, hst, hp]; rfl
          clear hE hst
          go_wp2_with (go_at_call 109; refine (plain_any _ _).mono ?_; rintro e w' ⟨rfl, rfl⟩)
          exact ⟨⟨n + 1, by go_num, by omega, hE', hb⟩, by simp [intOf]; omega⟩
      · have hE' : allFrom s 0 = true := by rw [← hE, allFrom_end (by omega)]
        go_wp2
        go_ret
        exact ⟨by first | rfl | (rw [hE']; rfl), hb⟩

end Go.Proofs.YtjjbbkmedpfenaaGreat.Items

/-
  Answers at this seat: which are right by the specification and by the program, what the laws' toAnswer, szAnswer do; an answer opened. No condition but the length that every text has.
-/
namespace Go.Proofs.YtjjbbkmedpfenaaGreat.Gen
open Go.ChangeShapes Go.WideShapes Go.ChangeAt Go.RowKit Go.Joins Go.Deep Base
set_option linter.unusedVariables false

/-- Which answers are right. -/
def ansB (code n : Int) (k t : ByteArray) : Bool := Items.inB code 0 9 && Items.inB n (-1) 100000 && Items.textB k && Items.textB t

theorem four (p q r s : Bool) : p = false ∨ (p = true ∧ q = false) ∨ (p = true ∧ q = true ∧ r = false) ∨ (p = true ∧ q = true ∧ r = true ∧ s = false) ∨ (p = true ∧ q = true ∧ r = true ∧ s = true) := by
  cases p <;> cases q <;> cases r <;> cases s <;> simp

set_option maxHeartbeats 1000000 in
theorem specAnswer_any (code n : Int) (k t : ByteArray) (hk : k.size ≤ 9223372036854775807) (ht : t.size ≤ 9223372036854775807) (w : World) :
    Calls Tryz.prog 44 #[.agg #[.int .i64 code, .int .i64 n, .string k, .string t]] w fun e w' => e = .returned (.bool (ansB code n k t)) ∧ Below w.heap.size w w' := by
  rcases four (Items.inB code 0 9) (Items.inB n (-1) 100000) (Items.textB k) (Items.textB t) with h1 | ⟨h1, h2⟩ | ⟨h1, h2, h3⟩ | ⟨h1, h2, h3, h4⟩ | ⟨h1, h2, h3, h4⟩
  all_goals
    go_enter Tryz.func44, Tryz.ntmps44
    have q1 : w.heap.size < w.heap.size + 1 := Nat.lt_succ_self _
    go_wp2_with (first
      | (go_at_call 35; refine (Items.in_any _ _ _ _).mono ?_; rintro e w' ⟨rfl, rfl⟩)
      | (go_at_call_of 83 (Value.string k); refine (Items.specText_any k hk _).mono ?_; rintro e w1 ⟨rfl, g1⟩; obtain ⟨c1, f1⟩ := bcell g1; have s1 := g1.size; try simp at s1; have q1 : w.heap.size < w1.heap.size := by omega)
      | (go_at_call_of 83 (Value.string t); refine (Items.specText_any t ht _).mono ?_; rintro e w1 ⟨rfl, g1⟩; obtain ⟨c1, f1⟩ := bcell g1; have s1 := g1.size; try simp at s1; have q1 : w.heap.size < w1.heap.size := by omega))
    go_ret
    refine ⟨by simp [ansB, *], ?_⟩
    repeat (first | exact Below.refl _ _ | assumption | refine via0 (by assumption) ?_ | refine Below.drew ?_ | refine alloc0 ?_ _)

set_option maxHeartbeats 1000000 in
theorem implAnswer_any (code n : Int) (k t : ByteArray) (hk : k.size ≤ 9223372036854775807) (ht : t.size ≤ 9223372036854775807) (w : World) :
    Calls Tryz.prog 69 #[.agg #[.int .i64 code, .int .i64 n, .string k, .string t]] w fun e w' => e = .returned (.bool (ansB code n k t)) ∧ Below w.heap.size w w' := by
  rcases four (Items.inB code 0 9) (Items.inB n (-1) 100000) (Items.textB k) (Items.textB t) with h1 | ⟨h1, h2⟩ | ⟨h1, h2, h3⟩ | ⟨h1, h2, h3, h4⟩ | ⟨h1, h2, h3, h4⟩
  all_goals
    go_enter Tryz.func69, Tryz.ntmps69
    have q1 : w.heap.size < w.heap.size + 1 := Nat.lt_succ_self _
    go_wp2_with (first
      | (go_at_call 66; refine (Items.within_any _ _ _ _).mono ?_; rintro e w' ⟨rfl, rfl⟩)
      | (go_at_call_of 102 (Value.string k); refine (Items.implText_any k hk _).mono ?_; rintro e w1 ⟨rfl, g1⟩; obtain ⟨c1, f1⟩ := bcell g1; have s1 := g1.size; try simp at s1; have q1 : w.heap.size < w1.heap.size := by omega)
      | (go_at_call_of 102 (Value.string t); refine (Items.implText_any t ht _).mono ?_; rintro e w1 ⟨rfl, g1⟩; obtain ⟨c1, f1⟩ := bcell g1; have s1 := g1.size; try simp at s1; have q1 : w.heap.size < w1.heap.size := by omega))
    go_ret
    refine ⟨by simp [ansB, *], ?_⟩
    repeat (first | exact Below.refl _ _ | assumption | refine via0 (by assumption) ?_ | refine Below.drew ?_ | refine alloc0 ?_ _)

end Go.Proofs.YtjjbbkmedpfenaaGreat.Gen

/-
  Maker: what the laws' to, sz, eq, mark and held functions of it do; the argument opened. No condition but that its list has at most 1048576 records.
-/
namespace Go.Proofs.YtjjbbkmedpfenaaGreat.Gen
open Go.ChangeShapes Go.WideShapes Go.ChangeAt Go.RowKit Go.Joins Go.Deep Base
set_option linter.unusedVariables false

theorem eqMaker_same (row who epoch last : Int) (A A' : Option Addr) (cap cap' : Nat) (l : List Mk) (hl : l.length ≤ 9223372036854775807) (w : World) (hA : At w A l) (hA' : At w A' l) :
    Calls Tryz.prog 71 #[.agg #[.int .i64 row, .int .i64 who, .int .i64 epoch, .int .i64 last, .slice A l.length cap], .agg #[.int .i64 row, .int .i64 who, .int .i64 epoch, .int .i64 last, .slice A' l.length cap']] w fun e w' => e = .returned (.bool true) ∧ Below w.heap.size w w' := by
  have HA : Hid (∀ W : World, Below w.heap.size w W → At W A l) := fun W hW => hA.below hW
  have HA' : Hid (∀ W : World, Below w.heap.size w W → At W A' l) := fun W hW => hA'.below hW
  clear hA hA'
  go_enter Tryz.func71, Tryz.ntmps71
  go_wp2_with (go_at_call 104; refine (eqMkS_same A A' cap cap' l hl _ (HA.out _ ?_) (HA'.out _ ?_)).mono ?_; (repeat (first | exact Below.refl _ _ | assumption | refine via0 (by assumption) ?_ | refine Below.drew ?_ | refine alloc0 ?_ _)); (repeat (first | exact Below.refl _ _ | assumption | refine via0 (by assumption) ?_ | refine Below.drew ?_ | refine alloc0 ?_ _)); rintro e w1 ⟨rfl, g1⟩)
  go_ret
  refine ⟨rfl, ?_⟩
  repeat (first | exact Below.refl _ _ | assumption | refine via0 (by assumption) ?_ | refine Below.drew ?_ | refine alloc0 ?_ _)

end Go.Proofs.YtjjbbkmedpfenaaGreat.Gen

/-
  Lists of makers, each with its list of marks: how they lie, and what the laws' to, sz, eq and mark functions of them do; the argument opened. No condition but that there are at most 1048576.
-/
namespace Go.Proofs.YtjjbbkmedpfenaaGreat.Gen
open Go.ChangeShapes Go.WideShapes Go.ChangeAt Go.RowKit Go.Joins Go.Deep Base
set_option linter.unusedVariables false

/-- A maker as it lies in a list: its marks lie elsewhere. -/
structure MC where
  row : Int
  who : Int
  epoch : Int
  last : Int
  A : Option Addr
  cap : Nat
  ms : List Mk

instance : Inhabited MC := ⟨⟨0, 0, 0, 0, none, 0, []⟩⟩
instance : Cel MC where
  k := 5
  cs x := [.int .i64 x.row, .int .i64 x.who, .int .i64 x.epoch, .int .i64 x.last, .slice x.A x.ms.length x.cap]
  len _ := rfl
  one x u hu := by simp at hu; rcases hu with rfl | rfl | rfl | rfl | rfl <;> rfl

/-- A maker's content. -/
structure PM where
  row : Int
  who : Int
  epoch : Int
  last : Int
  ms : List Mk
def MC.p (x : MC) : PM := ⟨x.row, x.who, x.epoch, x.last, x.ms⟩
def MC.right (x : MC) : Prop := I64 x.row ∧ I64 x.who ∧ I64 x.epoch ∧ I64 x.last ∧ x.ms.length ≤ 9223372036854775807 ∧ ∀ y ∈ x.ms, y.right
/-- The marks of each lie where it leads. -/
def Each (w : World) (l : List MC) : Prop := ∀ x ∈ l, At w x.A x.ms
theorem Each.below {w w' : World} {l : List MC} (h : Each w l) (hw : Below w.heap.size w w') : Each w' l := fun x hx => (h x hx).below hw
def MC.bk (x : MC) : Nat := match x.A with | some a => a.block | none => 0
/-- .. each in a block of its own, of N on, which may be written. -/
def Each.Own (N : Nat) (w : World) (l : List MC) : Prop :=
  (∀ x ∈ l, x.A = some ⟨x.bk, 0, none⟩ ∧ N ≤ x.bk ∧ x.bk < w.heap.size ∧ In w x.bk 0 x.ms ∧ w.there x.bk 0 (x.ms.length * 2)) ∧ l.Pairwise (fun x y => x.bk < y.bk)
theorem Each.Own.below {N : Nat} {w w' : World} {l : List MC} (h : Each.Own N w l) (hw : Below w.heap.size w w') : Each.Own N w' l :=
  ⟨fun x hx => by obtain ⟨h1, h2, h3, h4, h5⟩ := h.1 x hx; exact ⟨h1, h2, Nat.lt_of_lt_of_le h3 hw.size, h4.below h3 hw, there_below h5 h3 hw⟩, h.2⟩
theorem Each.Own.set {N : Nat} {w : World} {l : List MC} (h : Each.Own N w l) (b o : Nat) (v : Value) (hb : b < N) : Each.Own N (w.setCell ⟨b, o, none⟩ v) l :=
  ⟨fun x hx => by obtain ⟨h1, h2, h3, h4, h5⟩ := h.1 x hx; exact ⟨h1, h2, by simpa using h3, h4.set _ _ (by show b ≠ x.bk; omega), there_set h5 _ _ _⟩, h.2⟩
theorem Each.Own.each {N : Nat} {w : World} {l : List MC} (h : Each.Own N w l) : Each w l := fun x hx => by
  obtain ⟨h1, h2, h3, h4, h5⟩ := h.1 x hx; exact .inr ⟨_, _, h1, h3, h4⟩

theorem In.getMC {w : World} {b o : Nat} {l : List MC} (h : In w b o l) (i : Nat) (hi : i < l.length) :
    w.cell? ⟨b, o + i * 5, none⟩ = some (.int .i64 l[i].row) ∧ w.cell? ⟨b, o + i * 5 + 1, none⟩ = some (.int .i64 l[i].who) ∧ w.cell? ⟨b, o + i * 5 + 2, none⟩ = some (.int .i64 l[i].epoch) ∧
      w.cell? ⟨b, o + i * 5 + 3, none⟩ = some (.int .i64 l[i].last) ∧ w.cell? ⟨b, o + i * 5 + 4, none⟩ = some (.slice l[i].A l[i].ms.length l[i].cap) :=
  ⟨h.cell i hi (f := 0) rfl, h.cell i hi (f := 1) rfl, h.cell i hi (f := 2) rfl, h.cell i hi (f := 3) rfl, h.cell i hi (f := 4) rfl⟩

theorem infoMC : (Tryz.prog.info? 71).map (fun i => (i.zero, i.size, i.bytes)) = some (some (.agg #[.int .i64 0, .int .i64 0, .int .i64 0, .int .i64 0, .slice none 0 0]), 5, 56) := by kernel_rfl

def szM (l : List MC) : Nat := l.length + (l.map (fun x => x.ms.length)).sum
theorem sum_snoc (l : List MC) (n : Nat) (hn : n < l.length) : ((l.take (n + 1)).map (fun x => x.ms.length)).sum = ((l.take n).map (fun x => x.ms.length)).sum + l[n].ms.length := by
  rw [List.take_succ_eq_append_getElem hn, List.map_append, List.sum_append]; rfl
theorem sum_le (l : List MC) (n : Nat) : ((l.take n).map (fun x => x.ms.length)).sum ≤ (l.map (fun x => x.ms.length)).sum := by
  have e : (l.map (fun x => x.ms.length)).sum = ((l.take n).map (fun x => x.ms.length)).sum + ((l.drop n).map (fun x => x.ms.length)).sum := by
    rw [← List.sum_append, ← List.map_append, List.take_append_drop]
  omega
theorem len_le_sum (l : List MC) : ∀ x ∈ l, x.ms.length ≤ (l.map (fun x => x.ms.length)).sum := by
  induction l with
  | nil => simp
  | cons a l ih =>
    intro x hx
    rcases List.mem_cons.1 hx with rfl | hx
    · simp
    · have := ih x hx; simp; omega

/-- A record stored behind those that are there. -/
theorem store_snoc {α : Type} [Cel α] {w : World} {b m : Nat} {pre : List α} {x : α} (hin : In w b 0 pre) (hth : w.there b 0 (m * Cel.k α)) (hn : pre.length < m) :
    In (w.setCells b (pre.length * Cel.k α) (Cel.cs x)) b 0 (pre ++ [x]) ∧ (w.setCells b (pre.length * Cel.k α) (Cel.cs x)).there b 0 (m * Cel.k α) := by
  have hlen : (flat pre).length = pre.length * Cel.k α := flat_length _
  refine ⟨?_, World.there_setCells hth _ _ _⟩
  unfold In
  rw [flat_append, flat_one]
  refine rangeAt_append (World.rangeAt_setCells_apart hin _ _ _ (.inr (.inl (by rw [hlen]; omega)))) ?_
  rw [hlen, Nat.zero_add]
  refine World.rangeAt_setCells_same _ _ _ _ fun j hj => ?_
  have hj' : j < Cel.k α := by rwa [Cel.len] at hj
  have hlt : pre.length * Cel.k α + j < m * Cel.k α := by have : (pre.length + 1) * Cel.k α ≤ m * Cel.k α := Nat.mul_le_mul_right _ hn; rw [Nat.add_mul] at this; omega
  have := hth (pre.length * Cel.k α + j) hlt
  rwa [Nat.zero_add] at this

/-- What toMakerS makes. -/
structure NewL (b : Nat) (w : World) (l l' : List MC) : Prop where
  lt : b < w.heap.size
  lst : In w b 0 l'
  th : w.there b 0 (l.length * 5)
  own : Each.Own (b + 1) w l'
  same : l'.map MC.p = l.map MC.p
theorem NewL.below {b : Nat} {w w' : World} {l l' : List MC} (h : NewL b w l l') (g : Below w.heap.size w w') : NewL b w' l l' :=
  ⟨Nat.lt_of_lt_of_le h.lt g.size, h.lst.below h.lt g, there_below h.th h.lt g, h.own.below g, h.same⟩
theorem NewL.len {b : Nat} {w : World} {l l' : List MC} (h : NewL b w l l') : l'.length = l.length := by have := congrArg List.length h.same; simpa using this
theorem NewL.at {b : Nat} {w : World} {l l' : List MC} (h : NewL b w l l') : At w (some ⟨b, 0, none⟩) l' := .inr ⟨b, 0, rfl, h.lt, h.lst⟩

set_option maxRecDepth 100000 in
set_option maxHeartbeats 1000000 in
theorem eqMakerS_same (A A' : Option Addr) (cap cap' : Nat) (l l' : List MC) (hl : l.length ≤ 9223372036854775807) (hr : ∀ x ∈ l, x.ms.length ≤ 9223372036854775807) (hsame : l'.map MC.p = l.map MC.p) (w : World) (hA : At w A l) (hE : Each w l) (hA' : At w A' l') (hE' : Each w l') :
    Calls Tryz.prog 21 #[.slice A l.length cap, .slice A' l.length cap'] w fun e w' => e = .returned (.bool true) ∧ Below w.heap.size w w' := by
  have HA := hidP hA
  have HE := hidP hE
  have HA' := hidP hA'
  have HE' := hidP hE'
  have Hr := hidP hr
  have HS := hidP hsame
  have HLL : Hid (l'.length = l.length) := by have := congrArg List.length hsame; show _ = _; simpa using this
  clear hA hE hA' hE' hr hsame
  go_enter Tryz.func21, Tryz.ntmps21
  go_wp2
  go_loopw [5] (fun i w' => ∃ (n : Nat), i = .int .i64 (n : Int) ∧ n ≤ l.length ∧ Below w.heap.size w w') (fun i _ => l.length - (intOf i).toNat)
  case atStart => exact ⟨0, rfl, by omega, Below.refl _ _⟩
  case round =>
    obtain ⟨n, rfl, hn, hbl⟩ := hrel
    by_cases hlt : n < l.length
    · have hll := HLL.out
      obtain ⟨b, o, rfl, hbs, hin⟩ : ∃ b o, A = some ⟨b, o, none⟩ ∧ b < w.heap.size ∧ In w b o l := by
        rcases HA.out with h | h
        · subst h; simp at hlt
        · exact h
      obtain ⟨b', o', rfl, hbs', hin'⟩ : ∃ b o, A' = some ⟨b, o, none⟩ ∧ b < w.heap.size ∧ In w b o l' := by
        rcases HA'.out with h | h
        · subst h; simp at hll; omega
        · exact h
      have hp : (l'[n]'(by omega)).p = l[n].p := by
        have h1 : (l'.map MC.p)[n]'(by simp; omega) = (l.map MC.p)[n]'(by simpa using hlt) := by simp only [HS.out]
        simpa using h1
      obtain ⟨c0, c1, c2, c3, c4⟩ := (hin.below hbs hbl).getMC n hlt
      obtain ⟨d0, d1, d2, d3, d4⟩ := (hin'.below hbs' hbl).getMC n (by omega)
      have hx := (HE.out _ (List.getElem_mem hlt)).below hbl
      have hx' := (HE'.out _ (List.getElem_mem (show n < l'.length by omega))).below hbl
      have hmsl := Hr.out _ (List.getElem_mem hlt)
      rw [show (l'[n]'(by omega)).row = l[n].row from congrArg PM.row hp] at d0
      rw [show (l'[n]'(by omega)).who = l[n].who from congrArg PM.who hp] at d1
      rw [show (l'[n]'(by omega)).epoch = l[n].epoch from congrArg PM.epoch hp] at d2
      rw [show (l'[n]'(by omega)).last = l[n].last from congrArg PM.last hp] at d3
      rw [show (l'[n]'(by omega)).ms = l[n].ms from congrArg PM.ms hp] at d4 hx'
      generalize (l'[n]'(by omega)).A = aa at d4 hx'
      generalize (l'[n]'(by omega)).cap = cc at d4
      generalize l[n] = x at c0 c1 c2 c3 c4 d0 d1 d2 d3 d4 hx hx' hmsl
      obtain ⟨row, who, epoch, last, xA, xc, ms⟩ := x
      simp only at c0 c1 c2 c3 c4 d0 d1 d2 d3 d4 hx hx' hmsl
      have hx := hidP hx
      have hx' := hidP hx'
      clear hp hll
      have hb1 : b < wr.heap.size := Nat.lt_of_lt_of_le hbs hbl.size
      have hb2 : b' < wr.heap.size := Nat.lt_of_lt_of_le hbs' hbl.size
      have hi0 : (0 : Int) ≤ (n : Int) := by omega
      have hi1 : (n : Int) < (l.length : Int) := by omega
      go_wp2
      go_region_held3 (fun w' => w'.cell? ⟨b, o + n * 5, none⟩ = some (.int .i64 row) ∧ w'.cell? ⟨b, o + n * 5 + 1, none⟩ = some (.int .i64 who) ∧ w'.cell? ⟨b, o + n * 5 + 2, none⟩ = some (.int .i64 epoch) ∧ w'.cell? ⟨b, o + n * 5 + 3, none⟩ = some (.int .i64 last) ∧ w'.cell? ⟨b, o + n * 5 + 4, none⟩ = some (.slice xA ms.length xc) ∧
          w'.cell? ⟨b', o' + n * 5, none⟩ = some (.int .i64 row) ∧ w'.cell? ⟨b', o' + n * 5 + 1, none⟩ = some (.int .i64 who) ∧ w'.cell? ⟨b', o' + n * 5 + 2, none⟩ = some (.int .i64 epoch) ∧ w'.cell? ⟨b', o' + n * 5 + 3, none⟩ = some (.int .i64 last) ∧ w'.cell? ⟨b', o' + n * 5 + 4, none⟩ = some (.slice aa ms.length cc))
        (first | (go_split_ands; refine ⟨?_, ?_, ?_, ?_, ?_, ?_, ?_, ?_, ?_, ?_⟩ <;> first | assumption | exact (k1 _ _ hb1).trans (by assumption) | exact (k1 _ _ hb2).trans (by assumption)) | go_keep)
        (first
          | (go_at_call 71; refine (eqMaker_same row who epoch last xA aa xc cc ms hmsl _ (hx.out.below (Below.drew (Below.refl _ _))) (hx'.out.below (Below.drew (Below.refl _ _)))).mono ?_; rintro e w1 ⟨rfl, g1⟩; obtain ⟨k1, m1⟩ := bcell g1))
      all_goals
        go_wp2
        exact ⟨⟨n + 1, by go_num, by omega, via0 g1 hbl.drew⟩, by simp [intOf]; omega⟩
    · go_wp2
      go_ret
      exact ⟨rfl, hbl⟩

/-- What lies in a list that is being marked: of place n on as it was, and each may be written. -/
structure Mkg (b n : Nat) (w : World) (l : List MC) : Prop where
  lt : b < w.heap.size
  th : w.there b 0 (l.length * 5)
  sl : ∀ i (h : i < l.length), n ≤ i → w.cell? ⟨b, i * 5 + 4, none⟩ = some (.slice l[i].A l[i].ms.length l[i].cap)
  ow : ∀ i (h : i < l.length), n ≤ i → l[i].A = some ⟨l[i].bk, 0, none⟩ ∧ b < l[i].bk ∧ l[i].bk < w.heap.size ∧ w.there l[i].bk 0 (l[i].ms.length * 2)
theorem Mkg.of {b : Nat} {w : World} {l l' : List MC} (h : NewL b w l l') : Mkg b 0 w l' :=
  ⟨h.lt, by rw [h.len]; exact h.th, fun i hi _ => by have := (h.lst.getMC i hi).2.2.2.2; rwa [Nat.zero_add] at this, fun i hi _ => by obtain ⟨h1, h2, h3, h4, h5⟩ := h.own.1 _ (List.getElem_mem hi); exact ⟨h1, by omega, h3, h5⟩⟩
theorem Mkg.set {b n : Nat} {w : World} {l : List MC} (h : Mkg b n w l) (i f : Nat) (v : Value) (hi : i < n ∨ (i = n ∧ f < 4)) (hf : f < 5) : Mkg b n (w.setCell ⟨b, i * 5 + f, none⟩ v) l :=
  ⟨by simpa using h.lt, there_set h.th _ _ _, fun j hj hn => by rw [World.cell?_setCell_other (h := fun e => by have := congrArg Addr.off e; simp only at this; omega)]; exact h.sl j hj hn,
    fun j hj hn => by obtain ⟨h1, h2, h3, h4⟩ := h.ow j hj hn; exact ⟨h1, h2, by simpa using h3, there_set h4 _ _ _⟩⟩
theorem Mkg.only {b n : Nat} {w w' : World} {l : List MC} (h : Mkg b n w l) (hn : n < l.length) (hp : l.Pairwise (fun x y => x.bk < y.bk)) (k : Only l[n].bk w w') : Mkg b (n + 1) w' l := by
  have hb := (h.ow n hn (Nat.le_refl _)).2.1
  refine ⟨Nat.lt_of_lt_of_le h.lt k.size, there_only h.th k h.lt (by omega), fun j hj hnj => ?_, fun j hj hnj => ?_⟩
  · rw [k.cell (p := ⟨b, j * 5 + 4, none⟩) h.lt (by show b ≠ _; omega)]; exact h.sl j hj (by omega)
  · obtain ⟨h1, h2, h3, h4⟩ := h.ow j hj (by omega)
    have hlt : l[n].bk < l[j].bk := List.pairwise_iff_getElem.1 hp n j hn hj (by omega)
    exact ⟨h1, h2, Nat.lt_of_lt_of_le h3 k.size, there_only h4 k h3 (by omega)⟩

set_option maxRecDepth 100000 in
set_option maxHeartbeats 1000000 in
theorem markMakerS_any (b cap : Nat) (l : List MC) (hl : l.length ≤ 1048576) (hs : (l.map (fun x => x.ms.length)).sum ≤ 1048576) (hp : l.Pairwise (fun x y => x.bk < y.bk)) (w : World) (hM : Mkg b 0 w l) :
    Calls Tryz.prog 26 #[.slice (some ⟨b, 0, none⟩) l.length cap, .int .i64 1] w fun e w' => (∃ r : Int, e = .returned (.int .i64 r) ∧ 0 ≤ r) ∧ Off (b :: l.map MC.bk) w w' := by
  have HM := hidP hM
  have Hp := hidP hp
  clear hM hp
  go_enter Tryz.func26, Tryz.ntmps26
  go_wp2
  go_loopw [1, 5] (fun kk i w' => ∃ (n : Nat) (z : Int), i = .int .i64 (n : Int) ∧ kk = .int .i64 z ∧ n ≤ l.length ∧ 1 ≤ z ∧ z ≤ 8000000 ∧ Hid (z = 1 + (n : Int) * 4 + ((((l.take n).map (fun x => x.ms.length)).sum : Nat) : Int) * 2) ∧ Hid (Off (b :: l.map MC.bk) w w') ∧ Hid (Mkg b n w' l)) (fun _ i _ => l.length - (intOf i).toNat)
  case atStart => exact ⟨0, 1, rfl, rfl, by omega, by omega, by omega, by simp [Hid], Off.refl _ _, HM.out⟩
  case round =>
    obtain ⟨n, z, rfl, rfl, hn, hz1, hz2, hz, ho, hm⟩ := hrel
    by_cases hlt : n < l.length
    · have hth := hm.out.th
      obtain ⟨⟨v0, d0⟩, f0⟩ := there_at (f := 0) hth hlt (by omega)
      obtain ⟨⟨v1, d1⟩, f1⟩ := there_at (f := 1) hth hlt (by omega)
      obtain ⟨⟨v2, d2⟩, f2⟩ := there_at (f := 2) hth hlt (by omega)
      obtain ⟨⟨v3, d3⟩, f3⟩ := there_at (f := 3) hth hlt (by omega)
      have d4 := hm.out.sl n hlt (Nat.le_refl _)
      simp only [Nat.zero_add, Nat.add_zero] at d0 f0 d1 f1 d2 f2 d3 f3
      obtain ⟨h1, h2, h3, h4⟩ := hm.out.ow n hlt (Nat.le_refl _)
      have hsn := hidP (sum_snoc l n hlt)
      have hsl := sum_le l (n + 1)
      have hm4 := hidP ((((hm.out.set n 0 (.int .i64 z) (.inr ⟨rfl, by omega⟩) (by omega)).set n 1 (.int .i64 (z + 1)) (.inr ⟨rfl, by omega⟩) (by omega)).set n 2 (.int .i64 (z + 1 + 1)) (.inr ⟨rfl, by omega⟩) (by omega)).set n 3 (.int .i64 (z + 1 + 1 + 1)) (.inr ⟨rfl, by omega⟩) (by omega))
      have hz' := hz.out
      have hsn' := hsn.out
      have hbd : z + 1 + 1 + 1 + 1 + (l[n].ms.length : Int) * 2 ≤ 8000000 := by omega
      have hq := hm4.out.ow n hlt (Nat.le_refl _)
      have hq3 := hidP hq.2.2.1
      have hq4 := hidP hq.2.2.2
      have hms : l[n].ms.length ≤ 2000000 := by omega
      rw [h1] at d4
      clear hz' hsn' hsl h3 h4 hq hth
      go_wp2_with (go_at_call 75; refine (markMkS_any _ _ _ _ _ (by omega) (by omega) hms _ hq3.out hq4.out).mono ?_; rintro e w1 ⟨rfl, k1, i1, t1⟩)
      have hz' := hz.out
      have hsn' := hsn.out
      refine ⟨⟨n + 1, z + 1 + 1 + 1 + 1 + (l[n].ms.length : Int) * 2, by go_num, rfl, by omega, by omega, by omega, by show _ = _; rw [hsn']; omega, ?_, hm4.out.only hlt Hp.out k1⟩, by simp [intOf]; omega⟩
      have hbm : l[n].bk ∈ b :: l.map MC.bk := List.mem_cons_of_mem _ (List.mem_map.2 ⟨_, List.getElem_mem hlt, rfl⟩)
      have o1 : ∀ (W : World) (i : Nat) (v : Value), Off (b :: l.map MC.bk) w W → Off (b :: l.map MC.bk) w (W.setCell ⟨b, i, none⟩ v) := fun W i v h =>
        ⟨h.os, h.tape, h.output, by simpa using h.size, fun k hk hb => (Below.heap_setCell W ⟨b, i, none⟩ v k (fun e => hb (by simp [e]))).trans (h.block k hk hb)⟩
      have o4 := o1 _ (n * 5 + 3) (.int .i64 (z + 1 + 1 + 1)) (o1 _ (n * 5 + 2) (.int .i64 (z + 1 + 1)) (o1 _ (n * 5 + 1) (.int .i64 (z + 1)) (o1 _ (n * 5) (.int .i64 z) ho.out)))
      exact (o4.trans (Off.of_only k1)).mono (fun x hx => by rcases List.mem_append.1 hx with h | h; exact h; simp only [List.mem_singleton] at h; rw [h]; exact hbm)
    · go_wp2
      go_ret
      exact ⟨⟨z, rfl, by omega⟩, ho.out⟩

end Go.Proofs.YtjjbbkmedpfenaaGreat.Gen

/-
  Lists of answers: how they lie, what the laws' to, sz, eq, mark and held functions of them do; the argument opened. No condition but that there are at most 1048576, and the length that every text has.
-/
namespace Go.Proofs.YtjjbbkmedpfenaaGreat.Gen
open Go.ChangeShapes Go.WideShapes Go.ChangeAt Go.RowKit Go.Joins Go.Deep Base
set_option linter.unusedVariables false

/-- An answer as it is read. -/
structure An where
  code : Int
  n : Int
  key : ByteArray
  text : ByteArray
instance : Inhabited An := ⟨⟨0, 0, ⟨#[]⟩, ⟨#[]⟩⟩⟩
instance : Cel An where
  k := 4
  cs x := [.int .i64 x.code, .int .i64 x.n, .string x.key, .string x.text]
  len _ := rfl
  one x u hu := by simp at hu; rcases hu with rfl | rfl | rfl | rfl <;> rfl
def An.right (x : An) : Prop := I64 x.code ∧ I64 x.n ∧ x.key.size ≤ 9223372036854775807 ∧ x.text.size ≤ 9223372036854775807
def An.v (x : An) : Value := .agg #[.int .i64 x.code, .int .i64 x.n, .string x.key, .string x.text]

theorem In.getAn {w : World} {b o : Nat} {l : List An} (h : In w b o l) (i : Nat) (hi : i < l.length) :
    w.cell? ⟨b, o + i * 4, none⟩ = some (.int .i64 l[i].code) ∧ w.cell? ⟨b, o + i * 4 + 1, none⟩ = some (.int .i64 l[i].n) ∧ w.cell? ⟨b, o + i * 4 + 2, none⟩ = some (.string l[i].key) ∧ w.cell? ⟨b, o + i * 4 + 3, none⟩ = some (.string l[i].text) :=
  ⟨h.cell i hi (f := 0) rfl, h.cell i hi (f := 1) rfl, h.cell i hi (f := 2) rfl, h.cell i hi (f := 3) rfl⟩
theorem infoAn : (Tryz.prog.info? 77).map (fun i => (i.zero, i.size, i.bytes)) = some (some (.agg #[.int .i64 0, .int .i64 0, .string ⟨#[]⟩, .string ⟨#[]⟩]), 4, 48) := by kernel_rfl
def szAn (x : An) : Nat := x.key.size + x.text.size



theorem eqAnswer_same (code n : Int) (k t : ByteArray) (w : World) :
    Calls Tryz.prog 73 #[.agg #[.int .i64 code, .int .i64 n, .string k, .string t], .agg #[.int .i64 code, .int .i64 n, .string k, .string t]] w fun e w' => e = .returned (.bool true) ∧ Below w.heap.size w w' := by
  go_enter Tryz.func73, Tryz.ntmps73
  go_wp2
  go_ret
  exact ⟨rfl, by repeat (first | exact Below.refl _ _ | assumption | refine via0 (by assumption) ?_ | refine Below.drew ?_ | refine alloc0 ?_ _)⟩

set_option maxRecDepth 100000 in
set_option maxHeartbeats 1000000 in
theorem eqAnswerS_same (A A' : Option Addr) (cap cap' : Nat) (l : List An) (hl : l.length ≤ 9223372036854775807) (w : World) (hA : At w A l) (hA' : At w A' l) :
    Calls Tryz.prog 24 #[.slice A l.length cap, .slice A' l.length cap'] w fun e w' => e = .returned (.bool true) ∧ Below w.heap.size w w' := by
  have HA := hidP hA
  have HA' := hidP hA'
  clear hA hA'
  go_enter Tryz.func24, Tryz.ntmps24
  go_wp2
  go_loopw [5] (fun i w' => ∃ (n : Nat), i = .int .i64 (n : Int) ∧ n ≤ l.length ∧ Below w.heap.size w w') (fun i _ => l.length - (intOf i).toNat)
  case atStart => exact ⟨0, rfl, by omega, Below.refl _ _⟩
  case round =>
    obtain ⟨n, rfl, hn, hbl⟩ := hrel
    by_cases hlt : n < l.length
    · obtain ⟨b, o, rfl, hbs, hin⟩ : ∃ b o, A = some ⟨b, o, none⟩ ∧ b < w.heap.size ∧ In w b o l := by
        rcases HA.out with h | h
        · subst h; simp at hlt
        · exact h
      obtain ⟨b', o', rfl, hbs', hin'⟩ : ∃ b o, A' = some ⟨b, o, none⟩ ∧ b < w.heap.size ∧ In w b o l := by
        rcases HA'.out with h | h
        · subst h; simp at hlt
        · exact h
      obtain ⟨c0, c1, c2, c3⟩ := (hin.below hbs hbl).getAn n hlt
      obtain ⟨d0, d1, d2, d3⟩ := (hin'.below hbs' hbl).getAn n hlt
      have hb1 : b < wr.heap.size := Nat.lt_of_lt_of_le hbs hbl.size
      have hb2 : b' < wr.heap.size := Nat.lt_of_lt_of_le hbs' hbl.size
      have hi0 : (0 : Int) ≤ (n : Int) := by omega
      have hi1 : (n : Int) < (l.length : Int) := by omega
      go_wp2
      go_region_held3 (fun w' => w'.cell? ⟨b, o + n * 4, none⟩ = some (.int .i64 l[n].code) ∧ w'.cell? ⟨b, o + n * 4 + 1, none⟩ = some (.int .i64 l[n].n) ∧ w'.cell? ⟨b, o + n * 4 + 2, none⟩ = some (.string l[n].key) ∧ w'.cell? ⟨b, o + n * 4 + 3, none⟩ = some (.string l[n].text) ∧
          w'.cell? ⟨b', o' + n * 4, none⟩ = some (.int .i64 l[n].code) ∧ w'.cell? ⟨b', o' + n * 4 + 1, none⟩ = some (.int .i64 l[n].n) ∧ w'.cell? ⟨b', o' + n * 4 + 2, none⟩ = some (.string l[n].key) ∧ w'.cell? ⟨b', o' + n * 4 + 3, none⟩ = some (.string l[n].text) ∧ wr.heap.size ≤ w'.heap.size)
        (first | (go_split_ands; refine ⟨?_, ?_, ?_, ?_, ?_, ?_, ?_, ?_, ?_⟩ <;> first | assumption | exact (k1 _ _ hb1).trans (by assumption) | exact (k1 _ _ hb2).trans (by assumption) | exact s1 | (simp; done)) | go_keep)
        (first
          | (go_at_call 73; refine (eqAnswer_same _ _ _ _ _).mono ?_; rintro e w1 ⟨rfl, g1⟩; obtain ⟨k1, m1⟩ := bcell g1; have s1 := g1.size))
      all_goals
        go_wp2
        exact ⟨⟨n + 1, by go_num, by omega, via0 g1 hbl.drew⟩, by simp [intOf]; omega⟩
    · go_wp2
      go_ret
      exact ⟨rfl, hbl⟩

/-- The answer of marks from z on. -/
def markAn (z : Int) : An := ⟨z, z + 1, Items.markZ (z + 2), Items.markZ (z + 3)⟩
def marksAn (n : Nat) (z : Int) : List An := (List.range n).map fun (i : Nat) => markAn (z + (i : Int) * 4)
theorem marksAn_length (n : Nat) (z : Int) : (marksAn n z).length = n := by simp [marksAn]
theorem marksAn_succ (n : Nat) (z : Int) : marksAn (n + 1) z = marksAn n z ++ [markAn (z + (n : Int) * 4)] := by simp [marksAn, List.range_succ]
theorem marksAn_get (n : Nat) (z : Int) (i : Nat) (h : i < (marksAn n z).length) : (marksAn n z)[i] = markAn (z + (i : Int) * 4) := by simp [marksAn]
theorem marksAn_flat (n : Nat) (k z : Int) (hz : z = k + (n : Int) * 4) :
    flat (marksAn n k) ++ [.int .i64 z] ++ [.int .i64 (z + 1)] ++ [.string (Items.markZ (z + 1 + 1))] ++ [.string (Items.markZ (z + 1 + 1 + 1))] = flat (marksAn (n + 1) k) := by
  subst hz
  have e2 : ∀ z : Int, z + 1 + 1 = z + 2 := fun z => by omega
  have e3 : ∀ z : Int, z + 1 + 1 + 1 = z + 3 := fun z => by omega
  rw [marksAn_succ, flat_append, flat_one, e3, e2]
  simp [Cel.cs, markAn]

set_option maxRecDepth 100000 in
set_option maxHeartbeats 1000000 in
theorem markAnswerS_any (b o cap m : Nat) (k : Int) (hk : 1 ≤ k) (hk' : k ≤ 100000000) (hm : m ≤ 1048576) (w : World) (hb : b < w.heap.size) (hth : w.there b o (m * 4)) :
    Calls Tryz.prog 29 #[.slice (some ⟨b, o, none⟩) m cap, .int .i64 k] w fun e w' => e = .returned (.int .i64 (k + (m : Int) * 4)) ∧ Only b w w' ∧ In w' b o (marksAn m k) ∧ w'.there b o (m * 4) := by
  have HT := hidP hth
  clear hth
  go_enter Tryz.func29, Tryz.ntmps29
  go_wp2
  go_loopw [1, 5] (fun kk i w' => ∃ (n : Nat) (z : Int), i = .int .i64 (n : Int) ∧ kk = .int .i64 z ∧ n ≤ m ∧ 1 ≤ z ∧ z ≤ 900000000 ∧ Only b w w' ∧ Hid (z = k + (n : Int) * 4) ∧ Hid (In w' b o (marksAn n k)) ∧ Hid (w'.there b o (m * 4))) (fun _ i _ => m - (intOf i).toNat)
  case atStart => exact ⟨0, k, rfl, rfl, by omega, hk, by omega, Only.refl _ _, by simp [Hid], In.nil _ _ _, HT.out⟩
  case round =>
    obtain ⟨n, z, rfl, rfl, hn, hz1, hz2, ho, hz, hin, hth⟩ := hrel
    by_cases hlt : n < m
    · obtain ⟨⟨v0, d0⟩, f0⟩ := there_at (f := 0) hth.out hlt (by omega)
      rw [Nat.add_zero] at d0 f0
      obtain ⟨⟨v1, d1⟩, f1⟩ := there_at (f := 1) hth.out hlt (by omega)
      obtain ⟨⟨v2, d2⟩, f2⟩ := there_at (f := 2) hth.out hlt (by omega)
      obtain ⟨⟨v3, d3⟩, f3⟩ := there_at (f := 3) hth.out hlt (by omega)
      have q1 : b < wr.heap.size := Nat.lt_of_lt_of_le hb ho.size
      go_wp2_with (go_at_call 76; refine (Items.markText_at _ ?_ ?_ _).mono ?_; omega; omega; rintro e w1 ⟨rfl, g1⟩; obtain ⟨k1, m1⟩ := bcell g1; have s1 := g1.size; have q1 : b < w1.heap.size := (by first | exact lt_set q1 s1 | exact lt_set (lt_set q1 (Nat.le_refl _)) s1))
      have hlen : (flat (marksAn n k)).length = n * 4 := by rw [flat_length, marksAn_length]; rfl
      have P0 := push (v := .int .i64 z) (q := o + n * 4) ⟨hin.out, hth.out, Nat.lt_of_lt_of_le hb ho.size⟩ (by rw [hlen]; omega) (by rw [hlen])
      have P1 := push (v := .int .i64 (z + 1)) (q := o + n * 4 + 1) P0 (by simp [hlen]; omega) (by simp [hlen]; omega)
      have P2 := push (v := .string (Items.markZ (z + 1 + 1))) (q := o + n * 4 + 2) (pushcall P1 (by assumption)) (by simp [hlen]; omega) (by simp [hlen]; omega)
      have P3 := push (v := .string (Items.markZ (z + 1 + 1 + 1))) (q := o + n * 4 + 3) (pushcall P2 g1) (by simp [hlen]; omega) (by simp [hlen]; omega)
      rw [marksAn_flat n k z hz.out] at P3
      have hz' := hz.out
      refine ⟨⟨n + 1, z + 1 + 1 + 1 + 1, by go_num, rfl, by omega, by omega, by omega, ?_, by show z + 1 + 1 + 1 + 1 = _; omega, P3.1, P3.2.1⟩, by simp [intOf]; omega⟩
      exact (((((ho.set _ _).set _ _).below (by assumption)).set _ _).below g1).set _ _
    · obtain rfl : n = m := by omega
      go_wp2
      go_ret
      have e := hz.out
      subst e
      exact ⟨rfl, ho, hin.out, hth.out⟩

set_option maxRecDepth 100000 in
set_option maxHeartbeats 1000000 in
theorem heldAnswerS_any (A : Option Addr) (cap m : Nat) (k : Int) (hk : 1 ≤ k) (hk' : k ≤ 100000000) (hm : m ≤ 1048576) (w : World)
    (hA : m = 0 ∨ ∃ b o, A = some ⟨b, o, none⟩ ∧ b < w.heap.size ∧ In w b o (marksAn m k)) :
    Calls Tryz.prog 34 #[.slice A m cap, .int .i64 k] w fun e w' => e = .returned (.int .i64 (k + (m : Int) * 4)) ∧ Below w.heap.size w w' := by
  have HA := hidP hA
  clear hA
  go_enter Tryz.func34, Tryz.ntmps34
  go_wp2
  go_loopw [1, 5] (fun kk i w' => ∃ (n : Nat) (z : Int), i = .int .i64 (n : Int) ∧ kk = .int .i64 z ∧ n ≤ m ∧ 1 ≤ z ∧ z ≤ 900000000 ∧ Hid (z = k + (n : Int) * 4) ∧ Below w.heap.size w w') (fun _ i _ => m - (intOf i).toNat)
  case atStart => exact ⟨0, k, rfl, rfl, by omega, hk, by omega, by simp [Hid], Below.refl _ _⟩
  case round =>
    obtain ⟨n, z, rfl, rfl, hn, hz1, hz2, hz, hbl⟩ := hrel
    by_cases hlt : n < m
    · obtain ⟨b, o, rfl, hbs, hin⟩ : ∃ b o, A = some ⟨b, o, none⟩ ∧ b < w.heap.size ∧ In w b o (marksAn m k) := by
        rcases HA.out with h | h
        · omega
        · exact h
      have hb1 : b < wr.heap.size := Nat.lt_of_lt_of_le hbs hbl.size
      obtain ⟨c0, c1, c2, c3⟩ : wr.cell? ⟨b, o + n * 4, none⟩ = some (.int .i64 z) ∧ wr.cell? ⟨b, o + n * 4 + 1, none⟩ = some (.int .i64 (z + 1)) ∧ wr.cell? ⟨b, o + n * 4 + 2, none⟩ = some (.string (Items.markZ (z + 1 + 1))) ∧
          wr.cell? ⟨b, o + n * 4 + 3, none⟩ = some (.string (Items.markZ (z + 1 + 1 + 1))) := by
        have h := (hin.below hbs hbl).getAn n (by rw [marksAn_length]; exact hlt)
        rw [marksAn_get] at h
        have e2 : z + 1 + 1 = z + 2 := by omega
        have e3 : z + 1 + 1 + 1 = z + 3 := by omega
        rw [e3, e2, hz.out]
        exact h
      have hi0 : (0 : Int) ≤ (n : Int) := by omega
      have hi1 : (n : Int) < (m : Int) := by omega
      go_wp2
      go_region_held3 (fun w' => w'.cell? ⟨b, o + n * 4 + 2, none⟩ = some (.string (Items.markZ (z + 1 + 1))) ∧ w'.cell? ⟨b, o + n * 4 + 3, none⟩ = some (.string (Items.markZ (z + 1 + 1 + 1))) ∧ b < w'.heap.size)
        (first | (go_split_ands; refine ⟨?_, ?_, ?_⟩ <;> first | assumption | exact (k1 _ _ (by assumption)).trans (by assumption) | exact Nat.lt_of_lt_of_le (by assumption) s1 | (simp; done)) | go_keep)
        (first
          | (go_at_call 76; refine (Items.markText_at _ ?_ ?_ _).mono ?_; omega; omega; rintro e w1 ⟨rfl, g1⟩; obtain ⟨k1, m1⟩ := bcell g1; have s1 := g1.size))
      go_split_ands
      go_wp2
      go_region_held3 (fun w' => w'.cell? ⟨b, o + n * 4 + 3, none⟩ = some (.string (Items.markZ (z + 1 + 1 + 1))) ∧ b < w'.heap.size)
        (first | (go_split_ands; refine ⟨?_, ?_⟩ <;> first | assumption | exact (k2 _ _ (by assumption)).trans (by assumption) | exact Nat.lt_of_lt_of_le (by assumption) s2 | (simp; done)) | go_keep)
        (first
          | (go_at_call 76; refine (Items.markText_at _ ?_ ?_ _).mono ?_; omega; omega; rintro e w2 ⟨rfl, g2⟩; obtain ⟨k2, m2⟩ := bcell g2; have s2 := g2.size))
      go_split_ands
      go_wp2
      have hz' := hz.out
      exact ⟨⟨n + 1, z + 1 + 1 + 1 + 1, by go_num, rfl, by omega, by omega, by omega, by show z + 1 + 1 + 1 + 1 = _; omega, via0 g2 (via0 g1 hbl.drew).drew⟩, by simp [intOf]; omega⟩
    · obtain rfl : n = m := by omega
      go_wp2
      go_ret
      have e := hz.out
      subst e
      exact ⟨rfl, hbl⟩

end Go.Proofs.YtjjbbkmedpfenaaGreat.Gen

/-
  Records without lists, read by the program's reader: marks, items, answers. Condition: at most 1048576 bytes.
-/
namespace Go.Proofs.YtjjbbkmedpfenaaGreat.Gen
open Go.ChangeShapes Go.WideShapes Go.ChangeAt Go.RowKit Go.Joins Go.Deep Base
open Items (It)
set_option linter.unusedVariables false
set_option linter.unusedSimpArgs false

def isAn (x : An) (v : Value) (_ : World) : Prop := v = .agg #[.int .i64 x.code, .int .i64 x.n, .string x.key, .string x.text]
def getMk (l : List UInt8) (i : Int) : Option (Mk × Nat) := match getN l i with | none => none | some (n1, c1) => match getN l (c1 : Int) with | none => none | some (n2, c2) => some (⟨(n1 : Int), (n2 : Int)⟩, c2)
theorem getMk_le {l : List UInt8} {i : Nat} {x : Mk} {c : Nat} (h : getMk l (i : Int) = some (x, c)) : i < c ∧ c ≤ l.length := by
  unfold getMk at h
  cases hx1 : getN l (i : Int) with
  | none => simp [hx1] at h
  | some p1 =>
  obtain ⟨n1, c1⟩ := p1
  have hl1 := getN_le hx1
  cases hx2 : getN l (c1 : Int) with
  | none => simp [hx1, hx2] at h
  | some p2 =>
  obtain ⟨n2, c2⟩ := p2
  have hl2 := getN_le hx2
  simp [hx1, hx2] at h
  omega
set_option maxRecDepth 100000 in
set_option maxHeartbeats 4000000 in
theorem readMk_any (r : Nat) (A : Option Addr) (cap : Nat) (l : List UInt8) (i : Int) (hl : l.length ≤ 1048576) (hcap : l.length ≤ cap) (hcm : cap ≤ 9223372036854775807) (w : World) (h : Rd w r A cap l i) :
    Calls Tryz.prog 90 #[.pointer (some ⟨r, 0, none⟩)] w fun e w' => Reads isMk r A cap l w e w' (getMk l i) := by
  obtain ⟨hr, hfar⟩ := h.far'
  have Hfar : Hid (l = [] ∨ ∀ c o, A = some ⟨c, o, none⟩ → c ≠ w.heap.size + 1) := hidP (hfar.imp id fun h c o e => by have := h c o e; omega)
  have Hfar0 : Hid (l = [] ∨ ∀ c o, A = some ⟨c, o, none⟩ → c ≠ w.heap.size) := hidP (hfar.imp id fun h c o e => by have := h c o e; omega)
  have px0 := Blk.new (w.alloc (.cells #[.int .i64 0, .int .i64 0] 120)) 120 #[.int .i64 0, .int .i64 0]
  have pr0 := (Blk.new w 120 #[.int .i64 0, .int .i64 0]).alloc (.cells #[.int .i64 0, .int .i64 0] 120)
  simp only [World.size_alloc] at px0
  have HC0 := hidP (h.below (alloc0 (alloc0 (Below.refl _ w) (.cells #[.int .i64 0, .int .i64 0] 120)) (.cells #[.int .i64 0, .int .i64 0] 120)))
  have HO0 : Hid (Only r w ((w.alloc (.cells #[.int .i64 0, .int .i64 0] 120)).alloc (.cells #[.int .i64 0, .int .i64 0] 120))) := (Only.refl r w).below (alloc0 (alloc0 (Below.refl _ w) _) _)
  have Hpx0 := hidP px0
  have Hpr0 := hidP pr0
  clear px0 pr0 h hfar
  go_enter Tryz.func90, Tryz.ntmps90
  go_wp2_with fail
  refine (readNum_any r A cap l (i) hl _ HC0.out).mono ?_
  intro e w1 h1
  cases hx1 : getN l (i) with
  | none =>
    have hN : getMk l i = none := by simp [getMk, hx1]
    rw [hx1] at h1
    obtain ⟨o1, t, v, rfl⟩ := h1
    refine ⟨rfl, ?_⟩
    rw [hN]
    exact ⟨only_trans HO0.out o1, t, v, rfl⟩
  | some x =>
  obtain ⟨n1, c1⟩ := x
  rw [hx1] at h1
  obtain ⟨o1, h1, v, rfl, rfl⟩ := h1
  have hle1 := getN_le hx1
  have p1 : Blk w1 (w.heap.size + 1) 120 #[.int .i64 0, .int .i64 0] := Hpx0.out.only o1 (by omega)
  have g1 := Hpr0.out.only o1 (by omega)
  have d1 : w1.cell? ⟨w.heap.size + 1, 0, none⟩ = some (.int .i64 0) := p1.cell (i := 0) rfl
  have f1 := p1.thaw 0
  have q1' := p1.lt
  have Hpx1 : Hid (Blk (w1.setCell ⟨w.heap.size + 1, 0, none⟩ (Value.int .i64 (n1 : Int))) (w.heap.size + 1) 120 #[Value.int .i64 (n1 : Int), .int .i64 0]) := hidP (p1.setAt 0 (Value.int .i64 (n1 : Int)))
  have Hpr1 := hidP (g1.other (show w.heap.size ≠ w.heap.size + 1 by omega) 0 (Value.int .i64 (n1 : Int)))
  have HC1 := hidP (h1.offp (Offp.of_only ((Only.refl (w.heap.size + 1) w1).set 0 (Value.int .i64 (n1 : Int)))) (by show r ≠ _; omega) Hfar.out)
  have HO1 := hidP (only_offp (only_trans HO0.out o1) (Offp.of_only ((Only.refl (w.heap.size + 1) w1).set 0 (Value.int .i64 (n1 : Int)))) (fun x e => by subst e; omega))
  clear o1 h1 p1 g1 HC0 HO0 Hpx0 Hpr0
  go_wp2_with fail
  refine (readNum_any r A cap l ((c1 : Int)) hl _ HC1.out).mono ?_
  intro e w2 h2
  cases hx2 : getN l ((c1 : Int)) with
  | none =>
    have hN : getMk l i = none := by simp [getMk, hx1, hx2]
    rw [hx2] at h2
    obtain ⟨o2, t, v, rfl⟩ := h2
    refine ⟨rfl, ?_⟩
    rw [hN]
    exact ⟨only_trans HO1.out o2, t, v, rfl⟩
  | some x =>
  obtain ⟨n2, c2⟩ := x
  rw [hx2] at h2
  obtain ⟨o2, h2, v, rfl, rfl⟩ := h2
  have hle2 := getN_le hx2
  have p2 : Blk w2 (w.heap.size + 1) 120 #[Value.int .i64 (n1 : Int), .int .i64 0] := Hpx1.out.only o2 (by omega)
  have g2 := Hpr1.out.only o2 (by omega)
  have d2 : w2.cell? ⟨w.heap.size + 1, 1, none⟩ = some (.int .i64 0) := p2.cell (i := 1) rfl
  have f2 := p2.thaw 1
  have q2' := p2.lt
  have e0 : w2.cell? ⟨w.heap.size + 1, 0, none⟩ = some (Value.int .i64 (n1 : Int)) := p2.cell (i := 0) rfl
  have r0 : w2.cell? ⟨w.heap.size, 0, none⟩ = some (.int .i64 0) := g2.cell (i := 0) rfl
  have z0 := g2.thaw 0
  have r1 : w2.cell? ⟨w.heap.size, 1, none⟩ = some (.int .i64 0) := g2.cell (i := 1) rfl
  have z1 := g2.thaw 1
  have qr := g2.lt
  have Hpx2 : Hid (Blk (w2.setCell ⟨w.heap.size + 1, 1, none⟩ (Value.int .i64 (n2 : Int))) (w.heap.size + 1) 120 #[Value.int .i64 (n1 : Int), Value.int .i64 (n2 : Int)]) := hidP (p2.setAt 1 (Value.int .i64 (n2 : Int)))
  have Hpr2 := hidP (g2.other (show w.heap.size ≠ w.heap.size + 1 by omega) 1 (Value.int .i64 (n2 : Int)))
  have HC2 := hidP (h2.offp (Offp.of_only ((Only.refl (w.heap.size + 1) w2).set 1 (Value.int .i64 (n2 : Int)))) (by show r ≠ _; omega) Hfar.out)
  have HO2 := hidP (only_offp (only_trans HO1.out o2) (Offp.of_only ((Only.refl (w.heap.size + 1) w2).set 1 (Value.int .i64 (n2 : Int)))) (fun x e => by subst e; omega))
  clear o2 h2 p2 g2 HC1 HO1 Hpx1 Hpr1 d1 f1 q1'
  have HOz := hidP (only_offp (only_offp (HO2.out) (Offp.of_only ((Only.refl w.heap.size _).set 0 (Value.int .i64 (n1 : Int)))) (fun x e => by subst e; exact Nat.le_refl _)) (Offp.of_only ((Only.refl w.heap.size _).set 1 (Value.int .i64 (n2 : Int)))) (fun x e => by subst e; exact Nat.le_refl _))
  have HCz := hidP (Rd.offp (Rd.offp (HC2.out) (Offp.of_only ((Only.refl w.heap.size _).set 0 (Value.int .i64 (n1 : Int)))) (by show r ≠ _; omega) Hfar0.out) (Offp.of_only ((Only.refl w.heap.size _).set 1 (Value.int .i64 (n2 : Int)))) (by show r ≠ _; omega) Hfar0.out)
  have hN : Hid (getMk l i = some (⟨(n1 : Int), (n2 : Int)⟩, c2)) := hidP (by simp [getMk, hx1, hx2])
  clear HO2 HC2 Hpx2 Hpr2
  go_wp2
  refine bodyPost_ret (v := .agg #[Value.int .i64 (n1 : Int), Value.int .i64 (n2 : Int)]) (by simp [results, Tryz.results90, go_sem, r0, r1]) rfl ?_
  rw [hN.out]
  exact ⟨HOz.out, HCz.out, _, rfl, rfl⟩

def getIt (l : List UInt8) (i : Int) : Option (It × Nat) := match getN l i with | none => none | some (n1, c1) => match getT l (c1 : Int) with | none => none | some (s2, c2) => match getT l (c2 : Int) with | none => none | some (s3, c3) => match getN l (c3 : Int) with | none => none | some (n4, c4) => match getN l (c4 : Int) with | none => none | some (n5, c5) => some (⟨(n1 : Int), s2, s3, (n4 : Int), (n5 : Int)⟩, c5)
theorem getIt_le {l : List UInt8} {i : Nat} {x : It} {c : Nat} (h : getIt l (i : Int) = some (x, c)) : i < c ∧ c ≤ l.length := by
  unfold getIt at h
  cases hx1 : getN l (i : Int) with
  | none => simp [hx1] at h
  | some p1 =>
  obtain ⟨n1, c1⟩ := p1
  have hl1 := getN_le hx1
  cases hx2 : getT l (c1 : Int) with
  | none => simp [hx1, hx2] at h
  | some p2 =>
  obtain ⟨s2, c2⟩ := p2
  have hl2 := getT_le hx2
  cases hx3 : getT l (c2 : Int) with
  | none => simp [hx1, hx2, hx3] at h
  | some p3 =>
  obtain ⟨s3, c3⟩ := p3
  have hl3 := getT_le hx3
  cases hx4 : getN l (c3 : Int) with
  | none => simp [hx1, hx2, hx3, hx4] at h
  | some p4 =>
  obtain ⟨n4, c4⟩ := p4
  have hl4 := getN_le hx4
  cases hx5 : getN l (c4 : Int) with
  | none => simp [hx1, hx2, hx3, hx4, hx5] at h
  | some p5 =>
  obtain ⟨n5, c5⟩ := p5
  have hl5 := getN_le hx5
  simp [hx1, hx2, hx3, hx4, hx5] at h
  omega
set_option maxRecDepth 100000 in
set_option maxHeartbeats 4000000 in
theorem readIt_any (r : Nat) (A : Option Addr) (cap : Nat) (l : List UInt8) (i : Int) (hl : l.length ≤ 1048576) (hcap : l.length ≤ cap) (hcm : cap ≤ 9223372036854775807) (w : World) (h : Rd w r A cap l i) :
    Calls Tryz.prog 87 #[.pointer (some ⟨r, 0, none⟩)] w fun e w' => Reads isIt r A cap l w e w' (getIt l i) := by
  obtain ⟨hr, hfar⟩ := h.far'
  have Hfar : Hid (l = [] ∨ ∀ c o, A = some ⟨c, o, none⟩ → c ≠ w.heap.size + 1) := hidP (hfar.imp id fun h c o e => by have := h c o e; omega)
  have Hfar0 : Hid (l = [] ∨ ∀ c o, A = some ⟨c, o, none⟩ → c ≠ w.heap.size) := hidP (hfar.imp id fun h c o e => by have := h c o e; omega)
  have px0 := Blk.new (w.alloc (.cells #[.int .i64 0, .string ⟨#[]⟩, .string ⟨#[]⟩, .int .i64 0, .int .i64 0] 118)) 118 #[.int .i64 0, .string ⟨#[]⟩, .string ⟨#[]⟩, .int .i64 0, .int .i64 0]
  have pr0 := (Blk.new w 118 #[.int .i64 0, .string ⟨#[]⟩, .string ⟨#[]⟩, .int .i64 0, .int .i64 0]).alloc (.cells #[.int .i64 0, .string ⟨#[]⟩, .string ⟨#[]⟩, .int .i64 0, .int .i64 0] 118)
  simp only [World.size_alloc] at px0
  have HC0 := hidP (h.below (alloc0 (alloc0 (Below.refl _ w) (.cells #[.int .i64 0, .string ⟨#[]⟩, .string ⟨#[]⟩, .int .i64 0, .int .i64 0] 118)) (.cells #[.int .i64 0, .string ⟨#[]⟩, .string ⟨#[]⟩, .int .i64 0, .int .i64 0] 118)))
  have HO0 : Hid (Only r w ((w.alloc (.cells #[.int .i64 0, .string ⟨#[]⟩, .string ⟨#[]⟩, .int .i64 0, .int .i64 0] 118)).alloc (.cells #[.int .i64 0, .string ⟨#[]⟩, .string ⟨#[]⟩, .int .i64 0, .int .i64 0] 118))) := (Only.refl r w).below (alloc0 (alloc0 (Below.refl _ w) _) _)
  have Hpx0 := hidP px0
  have Hpr0 := hidP pr0
  clear px0 pr0 h hfar
  go_enter Tryz.func87, Tryz.ntmps87
  go_wp2_with fail
  refine (readNum_any r A cap l (i) hl _ HC0.out).mono ?_
  intro e w1 h1
  cases hx1 : getN l (i) with
  | none =>
    have hN : getIt l i = none := by simp [getIt, hx1]
    rw [hx1] at h1
    obtain ⟨o1, t, v, rfl⟩ := h1
    refine ⟨rfl, ?_⟩
    rw [hN]
    exact ⟨only_trans HO0.out o1, t, v, rfl⟩
  | some x =>
  obtain ⟨n1, c1⟩ := x
  rw [hx1] at h1
  obtain ⟨o1, h1, v, rfl, rfl⟩ := h1
  have hle1 := getN_le hx1
  have p1 : Blk w1 (w.heap.size + 1) 118 #[.int .i64 0, .string ⟨#[]⟩, .string ⟨#[]⟩, .int .i64 0, .int .i64 0] := Hpx0.out.only o1 (by omega)
  have g1 := Hpr0.out.only o1 (by omega)
  have d1 : w1.cell? ⟨w.heap.size + 1, 0, none⟩ = some (.int .i64 0) := p1.cell (i := 0) rfl
  have f1 := p1.thaw 0
  have q1' := p1.lt
  have Hpx1 : Hid (Blk (w1.setCell ⟨w.heap.size + 1, 0, none⟩ (Value.int .i64 (n1 : Int))) (w.heap.size + 1) 118 #[Value.int .i64 (n1 : Int), .string ⟨#[]⟩, .string ⟨#[]⟩, .int .i64 0, .int .i64 0]) := hidP (p1.setAt 0 (Value.int .i64 (n1 : Int)))
  have Hpr1 := hidP (g1.other (show w.heap.size ≠ w.heap.size + 1 by omega) 0 (Value.int .i64 (n1 : Int)))
  have HC1 := hidP (h1.offp (Offp.of_only ((Only.refl (w.heap.size + 1) w1).set 0 (Value.int .i64 (n1 : Int)))) (by show r ≠ _; omega) Hfar.out)
  have HO1 := hidP (only_offp (only_trans HO0.out o1) (Offp.of_only ((Only.refl (w.heap.size + 1) w1).set 0 (Value.int .i64 (n1 : Int)))) (fun x e => by subst e; omega))
  clear o1 h1 p1 g1 HC0 HO0 Hpx0 Hpr0
  go_wp2_with fail
  refine (readTxt_any r A cap l ((c1 : Int)) hl hcap hcm _ HC1.out).mono ?_
  intro e w2 h2
  cases hx2 : getT l ((c1 : Int)) with
  | none =>
    have hN : getIt l i = none := by simp [getIt, hx1, hx2]
    rw [hx2] at h2
    obtain ⟨o2, t, v, rfl⟩ := h2
    refine ⟨rfl, ?_⟩
    rw [hN]
    exact ⟨only_trans HO1.out o2, t, v, rfl⟩
  | some x =>
  obtain ⟨s2, c2⟩ := x
  rw [hx2] at h2
  obtain ⟨o2, h2, v, rfl, rfl⟩ := h2
  have hle2 := getT_le hx2
  have p2 : Blk w2 (w.heap.size + 1) 118 #[Value.int .i64 (n1 : Int), .string ⟨#[]⟩, .string ⟨#[]⟩, .int .i64 0, .int .i64 0] := Hpx1.out.only o2 (by omega)
  have g2 := Hpr1.out.only o2 (by omega)
  have d2 : w2.cell? ⟨w.heap.size + 1, 1, none⟩ = some (.string ⟨#[]⟩) := p2.cell (i := 1) rfl
  have f2 := p2.thaw 1
  have q2' := p2.lt
  have Hpx2 : Hid (Blk (w2.setCell ⟨w.heap.size + 1, 1, none⟩ (Value.string s2)) (w.heap.size + 1) 118 #[Value.int .i64 (n1 : Int), Value.string s2, .string ⟨#[]⟩, .int .i64 0, .int .i64 0]) := hidP (p2.setAt 1 (Value.string s2))
  have Hpr2 := hidP (g2.other (show w.heap.size ≠ w.heap.size + 1 by omega) 1 (Value.string s2))
  have HC2 := hidP (h2.offp (Offp.of_only ((Only.refl (w.heap.size + 1) w2).set 1 (Value.string s2))) (by show r ≠ _; omega) Hfar.out)
  have HO2 := hidP (only_offp (only_trans HO1.out o2) (Offp.of_only ((Only.refl (w.heap.size + 1) w2).set 1 (Value.string s2))) (fun x e => by subst e; omega))
  clear o2 h2 p2 g2 HC1 HO1 Hpx1 Hpr1 d1 f1 q1'
  go_wp2_with fail
  refine (readTxt_any r A cap l ((c2 : Int)) hl hcap hcm _ HC2.out).mono ?_
  intro e w3 h3
  cases hx3 : getT l ((c2 : Int)) with
  | none =>
    have hN : getIt l i = none := by simp [getIt, hx1, hx2, hx3]
    rw [hx3] at h3
    obtain ⟨o3, t, v, rfl⟩ := h3
    refine ⟨rfl, ?_⟩
    rw [hN]
    exact ⟨only_trans HO2.out o3, t, v, rfl⟩
  | some x =>
  obtain ⟨s3, c3⟩ := x
  rw [hx3] at h3
  obtain ⟨o3, h3, v, rfl, rfl⟩ := h3
  have hle3 := getT_le hx3
  have p3 : Blk w3 (w.heap.size + 1) 118 #[Value.int .i64 (n1 : Int), Value.string s2, .string ⟨#[]⟩, .int .i64 0, .int .i64 0] := Hpx2.out.only o3 (by omega)
  have g3 := Hpr2.out.only o3 (by omega)
  have d3 : w3.cell? ⟨w.heap.size + 1, 2, none⟩ = some (.string ⟨#[]⟩) := p3.cell (i := 2) rfl
  have f3 := p3.thaw 2
  have q3' := p3.lt
  have Hpx3 : Hid (Blk (w3.setCell ⟨w.heap.size + 1, 2, none⟩ (Value.string s3)) (w.heap.size + 1) 118 #[Value.int .i64 (n1 : Int), Value.string s2, Value.string s3, .int .i64 0, .int .i64 0]) := hidP (p3.setAt 2 (Value.string s3))
  have Hpr3 := hidP (g3.other (show w.heap.size ≠ w.heap.size + 1 by omega) 2 (Value.string s3))
  have HC3 := hidP (h3.offp (Offp.of_only ((Only.refl (w.heap.size + 1) w3).set 2 (Value.string s3))) (by show r ≠ _; omega) Hfar.out)
  have HO3 := hidP (only_offp (only_trans HO2.out o3) (Offp.of_only ((Only.refl (w.heap.size + 1) w3).set 2 (Value.string s3))) (fun x e => by subst e; omega))
  clear o3 h3 p3 g3 HC2 HO2 Hpx2 Hpr2 d2 f2 q2'
  go_wp2_with fail
  refine (readNum_any r A cap l ((c3 : Int)) hl _ HC3.out).mono ?_
  intro e w4 h4
  cases hx4 : getN l ((c3 : Int)) with
  | none =>
    have hN : getIt l i = none := by simp [getIt, hx1, hx2, hx3, hx4]
    rw [hx4] at h4
    obtain ⟨o4, t, v, rfl⟩ := h4
    refine ⟨rfl, ?_⟩
    rw [hN]
    exact ⟨only_trans HO3.out o4, t, v, rfl⟩
  | some x =>
  obtain ⟨n4, c4⟩ := x
  rw [hx4] at h4
  obtain ⟨o4, h4, v, rfl, rfl⟩ := h4
  have hle4 := getN_le hx4
  have p4 : Blk w4 (w.heap.size + 1) 118 #[Value.int .i64 (n1 : Int), Value.string s2, Value.string s3, .int .i64 0, .int .i64 0] := Hpx3.out.only o4 (by omega)
  have g4 := Hpr3.out.only o4 (by omega)
  have d4 : w4.cell? ⟨w.heap.size + 1, 3, none⟩ = some (.int .i64 0) := p4.cell (i := 3) rfl
  have f4 := p4.thaw 3
  have q4' := p4.lt
  have Hpx4 : Hid (Blk (w4.setCell ⟨w.heap.size + 1, 3, none⟩ (Value.int .i64 (n4 : Int))) (w.heap.size + 1) 118 #[Value.int .i64 (n1 : Int), Value.string s2, Value.string s3, Value.int .i64 (n4 : Int), .int .i64 0]) := hidP (p4.setAt 3 (Value.int .i64 (n4 : Int)))
  have Hpr4 := hidP (g4.other (show w.heap.size ≠ w.heap.size + 1 by omega) 3 (Value.int .i64 (n4 : Int)))
  have HC4 := hidP (h4.offp (Offp.of_only ((Only.refl (w.heap.size + 1) w4).set 3 (Value.int .i64 (n4 : Int)))) (by show r ≠ _; omega) Hfar.out)
  have HO4 := hidP (only_offp (only_trans HO3.out o4) (Offp.of_only ((Only.refl (w.heap.size + 1) w4).set 3 (Value.int .i64 (n4 : Int)))) (fun x e => by subst e; omega))
  clear o4 h4 p4 g4 HC3 HO3 Hpx3 Hpr3 d3 f3 q3'
  go_wp2_with fail
  refine (readNum_any r A cap l ((c4 : Int)) hl _ HC4.out).mono ?_
  intro e w5 h5
  cases hx5 : getN l ((c4 : Int)) with
  | none =>
    have hN : getIt l i = none := by simp [getIt, hx1, hx2, hx3, hx4, hx5]
    rw [hx5] at h5
    obtain ⟨o5, t, v, rfl⟩ := h5
    refine ⟨rfl, ?_⟩
    rw [hN]
    exact ⟨only_trans HO4.out o5, t, v, rfl⟩
  | some x =>
  obtain ⟨n5, c5⟩ := x
  rw [hx5] at h5
  obtain ⟨o5, h5, v, rfl, rfl⟩ := h5
  have hle5 := getN_le hx5
  have p5 : Blk w5 (w.heap.size + 1) 118 #[Value.int .i64 (n1 : Int), Value.string s2, Value.string s3, Value.int .i64 (n4 : Int), .int .i64 0] := Hpx4.out.only o5 (by omega)
  have g5 := Hpr4.out.only o5 (by omega)
  have d5 : w5.cell? ⟨w.heap.size + 1, 4, none⟩ = some (.int .i64 0) := p5.cell (i := 4) rfl
  have f5 := p5.thaw 4
  have q5' := p5.lt
  have e0 : w5.cell? ⟨w.heap.size + 1, 0, none⟩ = some (Value.int .i64 (n1 : Int)) := p5.cell (i := 0) rfl
  have e1 : w5.cell? ⟨w.heap.size + 1, 1, none⟩ = some (Value.string s2) := p5.cell (i := 1) rfl
  have e2 : w5.cell? ⟨w.heap.size + 1, 2, none⟩ = some (Value.string s3) := p5.cell (i := 2) rfl
  have e3 : w5.cell? ⟨w.heap.size + 1, 3, none⟩ = some (Value.int .i64 (n4 : Int)) := p5.cell (i := 3) rfl
  have r0 : w5.cell? ⟨w.heap.size, 0, none⟩ = some (.int .i64 0) := g5.cell (i := 0) rfl
  have z0 := g5.thaw 0
  have r1 : w5.cell? ⟨w.heap.size, 1, none⟩ = some (.string ⟨#[]⟩) := g5.cell (i := 1) rfl
  have z1 := g5.thaw 1
  have r2 : w5.cell? ⟨w.heap.size, 2, none⟩ = some (.string ⟨#[]⟩) := g5.cell (i := 2) rfl
  have z2 := g5.thaw 2
  have r3 : w5.cell? ⟨w.heap.size, 3, none⟩ = some (.int .i64 0) := g5.cell (i := 3) rfl
  have z3 := g5.thaw 3
  have r4 : w5.cell? ⟨w.heap.size, 4, none⟩ = some (.int .i64 0) := g5.cell (i := 4) rfl
  have z4 := g5.thaw 4
  have qr := g5.lt
  have Hpx5 : Hid (Blk (w5.setCell ⟨w.heap.size + 1, 4, none⟩ (Value.int .i64 (n5 : Int))) (w.heap.size + 1) 118 #[Value.int .i64 (n1 : Int), Value.string s2, Value.string s3, Value.int .i64 (n4 : Int), Value.int .i64 (n5 : Int)]) := hidP (p5.setAt 4 (Value.int .i64 (n5 : Int)))
  have Hpr5 := hidP (g5.other (show w.heap.size ≠ w.heap.size + 1 by omega) 4 (Value.int .i64 (n5 : Int)))
  have HC5 := hidP (h5.offp (Offp.of_only ((Only.refl (w.heap.size + 1) w5).set 4 (Value.int .i64 (n5 : Int)))) (by show r ≠ _; omega) Hfar.out)
  have HO5 := hidP (only_offp (only_trans HO4.out o5) (Offp.of_only ((Only.refl (w.heap.size + 1) w5).set 4 (Value.int .i64 (n5 : Int)))) (fun x e => by subst e; omega))
  clear o5 h5 p5 g5 HC4 HO4 Hpx4 Hpr4 d4 f4 q4'
  have HOz := hidP (only_offp (only_offp (only_offp (only_offp (only_offp (HO5.out) (Offp.of_only ((Only.refl w.heap.size _).set 0 (Value.int .i64 (n1 : Int)))) (fun x e => by subst e; exact Nat.le_refl _)) (Offp.of_only ((Only.refl w.heap.size _).set 1 (Value.string s2))) (fun x e => by subst e; exact Nat.le_refl _)) (Offp.of_only ((Only.refl w.heap.size _).set 2 (Value.string s3))) (fun x e => by subst e; exact Nat.le_refl _)) (Offp.of_only ((Only.refl w.heap.size _).set 3 (Value.int .i64 (n4 : Int)))) (fun x e => by subst e; exact Nat.le_refl _)) (Offp.of_only ((Only.refl w.heap.size _).set 4 (Value.int .i64 (n5 : Int)))) (fun x e => by subst e; exact Nat.le_refl _))
  have HCz := hidP (Rd.offp (Rd.offp (Rd.offp (Rd.offp (Rd.offp (HC5.out) (Offp.of_only ((Only.refl w.heap.size _).set 0 (Value.int .i64 (n1 : Int)))) (by show r ≠ _; omega) Hfar0.out) (Offp.of_only ((Only.refl w.heap.size _).set 1 (Value.string s2))) (by show r ≠ _; omega) Hfar0.out) (Offp.of_only ((Only.refl w.heap.size _).set 2 (Value.string s3))) (by show r ≠ _; omega) Hfar0.out) (Offp.of_only ((Only.refl w.heap.size _).set 3 (Value.int .i64 (n4 : Int)))) (by show r ≠ _; omega) Hfar0.out) (Offp.of_only ((Only.refl w.heap.size _).set 4 (Value.int .i64 (n5 : Int)))) (by show r ≠ _; omega) Hfar0.out)
  have hN : Hid (getIt l i = some (⟨(n1 : Int), s2, s3, (n4 : Int), (n5 : Int)⟩, c5)) := hidP (by simp [getIt, hx1, hx2, hx3, hx4, hx5])
  clear HO5 HC5 Hpx5 Hpr5
  go_wp2
  refine bodyPost_ret (v := .agg #[Value.int .i64 (n1 : Int), Value.string s2, Value.string s3, Value.int .i64 (n4 : Int), Value.int .i64 (n5 : Int)]) (by simp [results, Tryz.results87, go_sem, r0, r1, r2, r3, r4]) rfl ?_
  rw [hN.out]
  exact ⟨HOz.out, HCz.out, _, rfl, rfl⟩

def getAn (l : List UInt8) (i : Int) : Option (An × Nat) := match getN l i with | none => none | some (n1, c1) => match getN l (c1 : Int) with | none => none | some (n2, c2) => match getT l (c2 : Int) with | none => none | some (s3, c3) => match getT l (c3 : Int) with | none => none | some (s4, c4) => some (⟨(n1 : Int), (n2 : Int) - 1, s3, s4⟩, c4)
theorem getAn_le {l : List UInt8} {i : Nat} {x : An} {c : Nat} (h : getAn l (i : Int) = some (x, c)) : i < c ∧ c ≤ l.length := by
  unfold getAn at h
  cases hx1 : getN l (i : Int) with
  | none => simp [hx1] at h
  | some p1 =>
  obtain ⟨n1, c1⟩ := p1
  have hl1 := getN_le hx1
  cases hx2 : getN l (c1 : Int) with
  | none => simp [hx1, hx2] at h
  | some p2 =>
  obtain ⟨n2, c2⟩ := p2
  have hl2 := getN_le hx2
  cases hx3 : getT l (c2 : Int) with
  | none => simp [hx1, hx2, hx3] at h
  | some p3 =>
  obtain ⟨s3, c3⟩ := p3
  have hl3 := getT_le hx3
  cases hx4 : getT l (c3 : Int) with
  | none => simp [hx1, hx2, hx3, hx4] at h
  | some p4 =>
  obtain ⟨s4, c4⟩ := p4
  have hl4 := getT_le hx4
  simp [hx1, hx2, hx3, hx4] at h
  omega
set_option maxRecDepth 100000 in
set_option maxHeartbeats 4000000 in
theorem readAn_any (r : Nat) (A : Option Addr) (cap : Nat) (l : List UInt8) (i : Int) (hl : l.length ≤ 1048576) (hcap : l.length ≤ cap) (hcm : cap ≤ 9223372036854775807) (w : World) (h : Rd w r A cap l i) :
    Calls Tryz.prog 55 #[.pointer (some ⟨r, 0, none⟩)] w fun e w' => Reads isAn r A cap l w e w' (getAn l i) := by
  obtain ⟨hr, hfar⟩ := h.far'
  have Hfar : Hid (l = [] ∨ ∀ c o, A = some ⟨c, o, none⟩ → c ≠ w.heap.size + 1) := hidP (hfar.imp id fun h c o e => by have := h c o e; omega)
  have Hfar0 : Hid (l = [] ∨ ∀ c o, A = some ⟨c, o, none⟩ → c ≠ w.heap.size) := hidP (hfar.imp id fun h c o e => by have := h c o e; omega)
  have px0 := Blk.new (w.alloc (.cells #[.int .i64 0, .int .i64 0, .string ⟨#[]⟩, .string ⟨#[]⟩] 77)) 77 #[.int .i64 0, .int .i64 0, .string ⟨#[]⟩, .string ⟨#[]⟩]
  have pr0 := (Blk.new w 77 #[.int .i64 0, .int .i64 0, .string ⟨#[]⟩, .string ⟨#[]⟩]).alloc (.cells #[.int .i64 0, .int .i64 0, .string ⟨#[]⟩, .string ⟨#[]⟩] 77)
  simp only [World.size_alloc] at px0
  have HC0 := hidP (h.below (alloc0 (alloc0 (Below.refl _ w) (.cells #[.int .i64 0, .int .i64 0, .string ⟨#[]⟩, .string ⟨#[]⟩] 77)) (.cells #[.int .i64 0, .int .i64 0, .string ⟨#[]⟩, .string ⟨#[]⟩] 77)))
  have HO0 : Hid (Only r w ((w.alloc (.cells #[.int .i64 0, .int .i64 0, .string ⟨#[]⟩, .string ⟨#[]⟩] 77)).alloc (.cells #[.int .i64 0, .int .i64 0, .string ⟨#[]⟩, .string ⟨#[]⟩] 77))) := (Only.refl r w).below (alloc0 (alloc0 (Below.refl _ w) _) _)
  have Hpx0 := hidP px0
  have Hpr0 := hidP pr0
  clear px0 pr0 h hfar
  go_enter Tryz.func55, Tryz.ntmps55
  go_wp2_with fail
  refine (readNum_any r A cap l (i) hl _ HC0.out).mono ?_
  intro e w1 h1
  cases hx1 : getN l (i) with
  | none =>
    have hN : getAn l i = none := by simp [getAn, hx1]
    rw [hx1] at h1
    obtain ⟨o1, t, v, rfl⟩ := h1
    refine ⟨rfl, ?_⟩
    rw [hN]
    exact ⟨only_trans HO0.out o1, t, v, rfl⟩
  | some x =>
  obtain ⟨n1, c1⟩ := x
  rw [hx1] at h1
  obtain ⟨o1, h1, v, rfl, rfl⟩ := h1
  have hle1 := getN_le hx1
  have p1 : Blk w1 (w.heap.size + 1) 77 #[.int .i64 0, .int .i64 0, .string ⟨#[]⟩, .string ⟨#[]⟩] := Hpx0.out.only o1 (by omega)
  have g1 := Hpr0.out.only o1 (by omega)
  have d1 : w1.cell? ⟨w.heap.size + 1, 0, none⟩ = some (.int .i64 0) := p1.cell (i := 0) rfl
  have f1 := p1.thaw 0
  have q1' := p1.lt
  have Hpx1 : Hid (Blk (w1.setCell ⟨w.heap.size + 1, 0, none⟩ (Value.int .i64 (n1 : Int))) (w.heap.size + 1) 77 #[Value.int .i64 (n1 : Int), .int .i64 0, .string ⟨#[]⟩, .string ⟨#[]⟩]) := hidP (p1.setAt 0 (Value.int .i64 (n1 : Int)))
  have Hpr1 := hidP (g1.other (show w.heap.size ≠ w.heap.size + 1 by omega) 0 (Value.int .i64 (n1 : Int)))
  have HC1 := hidP (h1.offp (Offp.of_only ((Only.refl (w.heap.size + 1) w1).set 0 (Value.int .i64 (n1 : Int)))) (by show r ≠ _; omega) Hfar.out)
  have HO1 := hidP (only_offp (only_trans HO0.out o1) (Offp.of_only ((Only.refl (w.heap.size + 1) w1).set 0 (Value.int .i64 (n1 : Int)))) (fun x e => by subst e; omega))
  clear o1 h1 p1 g1 HC0 HO0 Hpx0 Hpr0
  go_wp2_with fail
  refine (readNum_any r A cap l ((c1 : Int)) hl _ HC1.out).mono ?_
  intro e w2 h2
  cases hx2 : getN l ((c1 : Int)) with
  | none =>
    have hN : getAn l i = none := by simp [getAn, hx1, hx2]
    rw [hx2] at h2
    obtain ⟨o2, t, v, rfl⟩ := h2
    refine ⟨rfl, ?_⟩
    rw [hN]
    exact ⟨only_trans HO1.out o2, t, v, rfl⟩
  | some x =>
  obtain ⟨n2, c2⟩ := x
  rw [hx2] at h2
  obtain ⟨o2, h2, v, rfl, rfl⟩ := h2
  have hle2 := getN_le hx2
  have p2 : Blk w2 (w.heap.size + 1) 77 #[Value.int .i64 (n1 : Int), .int .i64 0, .string ⟨#[]⟩, .string ⟨#[]⟩] := Hpx1.out.only o2 (by omega)
  have g2 := Hpr1.out.only o2 (by omega)
  have d2 : w2.cell? ⟨w.heap.size + 1, 1, none⟩ = some (.int .i64 0) := p2.cell (i := 1) rfl
  have f2 := p2.thaw 1
  have q2' := p2.lt
  have Hpx2 : Hid (Blk (w2.setCell ⟨w.heap.size + 1, 1, none⟩ (Value.int .i64 ((n2 : Int) - 1))) (w.heap.size + 1) 77 #[Value.int .i64 (n1 : Int), Value.int .i64 ((n2 : Int) - 1), .string ⟨#[]⟩, .string ⟨#[]⟩]) := hidP (p2.setAt 1 (Value.int .i64 ((n2 : Int) - 1)))
  have Hpr2 := hidP (g2.other (show w.heap.size ≠ w.heap.size + 1 by omega) 1 (Value.int .i64 ((n2 : Int) - 1)))
  have HC2 := hidP (h2.offp (Offp.of_only ((Only.refl (w.heap.size + 1) w2).set 1 (Value.int .i64 ((n2 : Int) - 1)))) (by show r ≠ _; omega) Hfar.out)
  have HO2 := hidP (only_offp (only_trans HO1.out o2) (Offp.of_only ((Only.refl (w.heap.size + 1) w2).set 1 (Value.int .i64 ((n2 : Int) - 1)))) (fun x e => by subst e; omega))
  clear o2 h2 p2 g2 HC1 HO1 Hpx1 Hpr1 d1 f1 q1'
  go_wp2_with fail
  refine (readTxt_any r A cap l ((c2 : Int)) hl hcap hcm _ HC2.out).mono ?_
  intro e w3 h3
  cases hx3 : getT l ((c2 : Int)) with
  | none =>
    have hN : getAn l i = none := by simp [getAn, hx1, hx2, hx3]
    rw [hx3] at h3
    obtain ⟨o3, t, v, rfl⟩ := h3
    refine ⟨rfl, ?_⟩
    rw [hN]
    exact ⟨only_trans HO2.out o3, t, v, rfl⟩
  | some x =>
  obtain ⟨s3, c3⟩ := x
  rw [hx3] at h3
  obtain ⟨o3, h3, v, rfl, rfl⟩ := h3
  have hle3 := getT_le hx3
  have p3 : Blk w3 (w.heap.size + 1) 77 #[Value.int .i64 (n1 : Int), Value.int .i64 ((n2 : Int) - 1), .string ⟨#[]⟩, .string ⟨#[]⟩] := Hpx2.out.only o3 (by omega)
  have g3 := Hpr2.out.only o3 (by omega)
  have d3 : w3.cell? ⟨w.heap.size + 1, 2, none⟩ = some (.string ⟨#[]⟩) := p3.cell (i := 2) rfl
  have f3 := p3.thaw 2
  have q3' := p3.lt
  have Hpx3 : Hid (Blk (w3.setCell ⟨w.heap.size + 1, 2, none⟩ (Value.string s3)) (w.heap.size + 1) 77 #[Value.int .i64 (n1 : Int), Value.int .i64 ((n2 : Int) - 1), Value.string s3, .string ⟨#[]⟩]) := hidP (p3.setAt 2 (Value.string s3))
  have Hpr3 := hidP (g3.other (show w.heap.size ≠ w.heap.size + 1 by omega) 2 (Value.string s3))
  have HC3 := hidP (h3.offp (Offp.of_only ((Only.refl (w.heap.size + 1) w3).set 2 (Value.string s3))) (by show r ≠ _; omega) Hfar.out)
  have HO3 := hidP (only_offp (only_trans HO2.out o3) (Offp.of_only ((Only.refl (w.heap.size + 1) w3).set 2 (Value.string s3))) (fun x e => by subst e; omega))
  clear o3 h3 p3 g3 HC2 HO2 Hpx2 Hpr2 d2 f2 q2'
  go_wp2_with fail
  refine (readTxt_any r A cap l ((c3 : Int)) hl hcap hcm _ HC3.out).mono ?_
  intro e w4 h4
  cases hx4 : getT l ((c3 : Int)) with
  | none =>
    have hN : getAn l i = none := by simp [getAn, hx1, hx2, hx3, hx4]
    rw [hx4] at h4
    obtain ⟨o4, t, v, rfl⟩ := h4
    refine ⟨rfl, ?_⟩
    rw [hN]
    exact ⟨only_trans HO3.out o4, t, v, rfl⟩
  | some x =>
  obtain ⟨s4, c4⟩ := x
  rw [hx4] at h4
  obtain ⟨o4, h4, v, rfl, rfl⟩ := h4
  have hle4 := getT_le hx4
  have p4 : Blk w4 (w.heap.size + 1) 77 #[Value.int .i64 (n1 : Int), Value.int .i64 ((n2 : Int) - 1), Value.string s3, .string ⟨#[]⟩] := Hpx3.out.only o4 (by omega)
  have g4 := Hpr3.out.only o4 (by omega)
  have d4 : w4.cell? ⟨w.heap.size + 1, 3, none⟩ = some (.string ⟨#[]⟩) := p4.cell (i := 3) rfl
  have f4 := p4.thaw 3
  have q4' := p4.lt
  have e0 : w4.cell? ⟨w.heap.size + 1, 0, none⟩ = some (Value.int .i64 (n1 : Int)) := p4.cell (i := 0) rfl
  have e1 : w4.cell? ⟨w.heap.size + 1, 1, none⟩ = some (Value.int .i64 ((n2 : Int) - 1)) := p4.cell (i := 1) rfl
  have e2 : w4.cell? ⟨w.heap.size + 1, 2, none⟩ = some (Value.string s3) := p4.cell (i := 2) rfl
  have r0 : w4.cell? ⟨w.heap.size, 0, none⟩ = some (.int .i64 0) := g4.cell (i := 0) rfl
  have z0 := g4.thaw 0
  have r1 : w4.cell? ⟨w.heap.size, 1, none⟩ = some (.int .i64 0) := g4.cell (i := 1) rfl
  have z1 := g4.thaw 1
  have r2 : w4.cell? ⟨w.heap.size, 2, none⟩ = some (.string ⟨#[]⟩) := g4.cell (i := 2) rfl
  have z2 := g4.thaw 2
  have r3 : w4.cell? ⟨w.heap.size, 3, none⟩ = some (.string ⟨#[]⟩) := g4.cell (i := 3) rfl
  have z3 := g4.thaw 3
  have qr := g4.lt
  have Hpx4 : Hid (Blk (w4.setCell ⟨w.heap.size + 1, 3, none⟩ (Value.string s4)) (w.heap.size + 1) 77 #[Value.int .i64 (n1 : Int), Value.int .i64 ((n2 : Int) - 1), Value.string s3, Value.string s4]) := hidP (p4.setAt 3 (Value.string s4))
  have Hpr4 := hidP (g4.other (show w.heap.size ≠ w.heap.size + 1 by omega) 3 (Value.string s4))
  have HC4 := hidP (h4.offp (Offp.of_only ((Only.refl (w.heap.size + 1) w4).set 3 (Value.string s4))) (by show r ≠ _; omega) Hfar.out)
  have HO4 := hidP (only_offp (only_trans HO3.out o4) (Offp.of_only ((Only.refl (w.heap.size + 1) w4).set 3 (Value.string s4))) (fun x e => by subst e; omega))
  clear o4 h4 p4 g4 HC3 HO3 Hpx3 Hpr3 d3 f3 q3'
  have HOz := hidP (only_offp (only_offp (only_offp (only_offp (HO4.out) (Offp.of_only ((Only.refl w.heap.size _).set 0 (Value.int .i64 (n1 : Int)))) (fun x e => by subst e; exact Nat.le_refl _)) (Offp.of_only ((Only.refl w.heap.size _).set 1 (Value.int .i64 ((n2 : Int) - 1)))) (fun x e => by subst e; exact Nat.le_refl _)) (Offp.of_only ((Only.refl w.heap.size _).set 2 (Value.string s3))) (fun x e => by subst e; exact Nat.le_refl _)) (Offp.of_only ((Only.refl w.heap.size _).set 3 (Value.string s4))) (fun x e => by subst e; exact Nat.le_refl _))
  have HCz := hidP (Rd.offp (Rd.offp (Rd.offp (Rd.offp (HC4.out) (Offp.of_only ((Only.refl w.heap.size _).set 0 (Value.int .i64 (n1 : Int)))) (by show r ≠ _; omega) Hfar0.out) (Offp.of_only ((Only.refl w.heap.size _).set 1 (Value.int .i64 ((n2 : Int) - 1)))) (by show r ≠ _; omega) Hfar0.out) (Offp.of_only ((Only.refl w.heap.size _).set 2 (Value.string s3))) (by show r ≠ _; omega) Hfar0.out) (Offp.of_only ((Only.refl w.heap.size _).set 3 (Value.string s4))) (by show r ≠ _; omega) Hfar0.out)
  have hN : Hid (getAn l i = some (⟨(n1 : Int), (n2 : Int) - 1, s3, s4⟩, c4)) := hidP (by simp [getAn, hx1, hx2, hx3, hx4])
  clear HO4 HC4 Hpx4 Hpr4
  go_wp2
  refine bodyPost_ret (v := .agg #[Value.int .i64 (n1 : Int), Value.int .i64 ((n2 : Int) - 1), Value.string s3, Value.string s4]) (by simp [results, Tryz.results55, go_sem, r0, r1, r2, r3]) rfl ?_
  rw [hN.out]
  exact ⟨HOz.out, HCz.out, _, rfl, rfl⟩
end Go.Proofs.YtjjbbkmedpfenaaGreat.Gen

/-
  A number, and behind it so many values: the program's readList of marks and items. Condition: at most 1048576 bytes.
-/
namespace Go.Proofs.YtjjbbkmedpfenaaGreat.Gen
open Go.ChangeShapes Go.WideShapes Go.ChangeAt Go.RowKit Go.Joins Go.Deep Base
open Items (It)
set_option linter.unusedVariables false
set_option linter.unusedSimpArgs false

set_option maxRecDepth 100000 in
set_option maxHeartbeats 2000000 in
theorem readListMk_any (r : Nat) (A : Option Addr) (cap : Nat) (l : List UInt8) (i : Int) (hl : l.length ≤ 1048576) (hcap : l.length ≤ cap) (hcm : cap ≤ 9223372036854775807) (w : World) (h : Rd w r A cap l i) :
    Calls Tryz.prog 89 #[.pointer (some ⟨r, 0, none⟩), .func (.func 90) #[] #[]] w fun e w' => Reads (isList 120 w.heap.size) r A cap l w e w' (getList l (getMk l) i) := by
  have HC := hidP h
  clear h
  go_enter Tryz.func89, Tryz.ntmps89
  go_wp2_with fail
  refine (readNum_any r A cap l i hl _ HC.out).mono ?_
  intro e w1 h1
  cases hx1 : getN l i with
  | none =>
    have hN : getList l (getMk l) i = none := by simp [getList, hx1]
    rw [hx1] at h1
    obtain ⟨o1, t, v, rfl⟩ := h1
    refine ⟨rfl, ?_⟩
    rw [hN]
    exact ⟨o1, t, v, rfl⟩
  | some x =>
  obtain ⟨n1, c1⟩ := x
  rw [hx1] at h1
  obtain ⟨o1, h1, v, rfl, rfl⟩ := h1
  have hle1 := getN_le hx1
  have hN : Hid (getList l (getMk l) i = getMany (getMk l) n1 c1) := hidP (by simp [getList, hx1])
  have HC1 := hidP h1
  have HO1 := hidP o1
  clear h1 o1 HC hx1
  go_wp2_with fail
  refine (readManyMk_any (getMk l) r A cap l hl (fun i x c h => getMk_le h) (fun j W hW => readMk_any r A cap l (j : Int) hl hcap hcm W hW) n1 hle1.1 c1 _ HC1.out).mono ?_
  intro e w2 h2
  cases hx2 : getMany (getMk l) n1 c1 with
  | none =>
    rw [hx2] at h2
    obtain ⟨o2, t, v, rfl⟩ := h2
    refine ⟨rfl, ?_⟩
    rw [hN.out, hx2]
    exact ⟨only_trans HO1.out o2, t, v, rfl⟩
  | some x =>
  obtain ⟨xs, c2⟩ := x
  rw [hx2] at h2
  obtain ⟨o2, h2, v, rfl, hv⟩ := h2
  have HC2 := hidP h2
  have HO2 := hidP (only_trans HO1.out o2)
  have hv' := hidP (hv.mono HO1.out.size)
  clear o2 h2 hv
  go_wp2
  refine bodyPost_ret (v := v) (by simp [results, Tryz.results89, go_sem]) rfl ?_
  rw [hN.out, hx2]
  exact ⟨HO2.out, HC2.out, _, rfl, hv'.out⟩

set_option maxRecDepth 100000 in
set_option maxHeartbeats 2000000 in
theorem readListIt_any (r : Nat) (A : Option Addr) (cap : Nat) (l : List UInt8) (i : Int) (hl : l.length ≤ 1048576) (hcap : l.length ≤ cap) (hcm : cap ≤ 9223372036854775807) (w : World) (h : Rd w r A cap l i) :
    Calls Tryz.prog 86 #[.pointer (some ⟨r, 0, none⟩), .func (.func 87) #[] #[]] w fun e w' => Reads (isList 118 w.heap.size) r A cap l w e w' (getList l (getIt l) i) := by
  have HC := hidP h
  clear h
  go_enter Tryz.func86, Tryz.ntmps86
  go_wp2_with fail
  refine (readNum_any r A cap l i hl _ HC.out).mono ?_
  intro e w1 h1
  cases hx1 : getN l i with
  | none =>
    have hN : getList l (getIt l) i = none := by simp [getList, hx1]
    rw [hx1] at h1
    obtain ⟨o1, t, v, rfl⟩ := h1
    refine ⟨rfl, ?_⟩
    rw [hN]
    exact ⟨o1, t, v, rfl⟩
  | some x =>
  obtain ⟨n1, c1⟩ := x
  rw [hx1] at h1
  obtain ⟨o1, h1, v, rfl, rfl⟩ := h1
  have hle1 := getN_le hx1
  have hN : Hid (getList l (getIt l) i = getMany (getIt l) n1 c1) := hidP (by simp [getList, hx1])
  have HC1 := hidP h1
  have HO1 := hidP o1
  clear h1 o1 HC hx1
  go_wp2_with fail
  refine (readManyIt_any (getIt l) r A cap l hl (fun i x c h => getIt_le h) (fun j W hW => readIt_any r A cap l (j : Int) hl hcap hcm W hW) n1 hle1.1 c1 _ HC1.out).mono ?_
  intro e w2 h2
  cases hx2 : getMany (getIt l) n1 c1 with
  | none =>
    rw [hx2] at h2
    obtain ⟨o2, t, v, rfl⟩ := h2
    refine ⟨rfl, ?_⟩
    rw [hN.out, hx2]
    exact ⟨only_trans HO1.out o2, t, v, rfl⟩
  | some x =>
  obtain ⟨xs, c2⟩ := x
  rw [hx2] at h2
  obtain ⟨o2, h2, v, rfl, hv⟩ := h2
  have HC2 := hidP h2
  have HO2 := hidP (only_trans HO1.out o2)
  have hv' := hidP (hv.mono HO1.out.size)
  clear o2 h2 hv
  go_wp2
  refine bodyPost_ret (v := v) (by simp [results, Tryz.results86, go_sem]) rfl ?_
  rw [hN.out, hx2]
  exact ⟨HO2.out, HC2.out, _, rfl, hv'.out⟩
end Go.Proofs.YtjjbbkmedpfenaaGreat.Gen

/-
  Lists of makers in blocks of their own: made by the laws' toMakerS, marked and held. No condition but that there are at most 1048576.
-/
namespace Go.Proofs.YtjjbbkmedpfenaaGreat.Gen
open Go.ChangeShapes Go.WideShapes Go.ChangeAt Go.RowKit Go.Joins Go.Deep Base
set_option linter.unusedVariables false
set_option linter.unusedSimpArgs false

/-- A maker's marks in a block of S. -/
def makP (w : World) (x : MC) (S : Nat → Prop) : Prop := Sub w x.A x.ms S
theorem makP_firm : Firm makP := fun w w' x S T h k hd => Sub.offp h k hd
theorem makP_each {S : Nat → Prop} {w : World} {a : Option Addr} {l : List MC} (h : Own makP w a l S) : Each w l := h.each (fun x S hx => Sub.at hx)


def cM (x : MC) : Nat := 4 + x.ms.length * 2
def mM (x : MC) (z : Int) : MC := ⟨z, z + 1, z + 2, z + 3, x.A, x.cap, marksMk x.ms.length (z + 4)⟩

/-- Marks marked where they lie. -/
theorem mark_marks (a : Option Addr) (cap : Nat) (l : List Mk) (S : Nat → Prop) (k : Int) (hk : 1 ≤ k) (hk' : k ≤ 100000000) (hl : l.length ≤ 2000000) (w : World) (h : Sub w a l S) :
    Calls Tryz.prog 75 #[.slice a l.length cap, .int .i64 k] w fun e w' => e = .returned (.int .i64 (k + (l.length : Int) * 2)) ∧ Offp S w w' ∧ Sub w' a (marksMk l.length k) S := by
  rcases h with rfl | ⟨b, o, rfl, hS, hb, hi, ht⟩
  · refine (markMkS_none a cap k w).mono ?_
    rintro e w' ⟨rfl, rfl⟩
    exact ⟨by simp, Offp.refl _ _, .inl rfl⟩
  · refine (markMkS_any b o cap l.length k hk hk' hl w hb ht).mono ?_
    rintro e w' ⟨rfl, ko, hin, hth⟩
    exact ⟨rfl, (Offp.of_only ko).mono (fun x e => e ▸ hS), .inr ⟨b, o, rfl, hS, Nat.lt_of_lt_of_le hb ko.size, hin, by rw [marksMk_length]; exact hth⟩⟩

set_option maxRecDepth 100000 in
set_option maxHeartbeats 1000000 in
theorem markMakerS_own (b o cap : Nat) (l : List MC) (fp : Nat → Nat → Prop) (k : Int) (hk : 1 ≤ k) (hk' : k ≤ 50000000) (hc : count cM l ≤ 50000000) (hl : l.length ≤ 1048576) (hs : ∀ x ∈ l, x.ms.length ≤ 1048576) (w : World) (hO : OwnF makP w b o l fp) :
    Calls Tryz.prog 26 #[.slice (some ⟨b, o, none⟩) l.length cap, .int .i64 k] w fun e w' => e = .returned (.int .i64 (k + (count cM l : Int))) ∧ Offp (fun x => x = b ∨ ∃ i, fp i x) w w' ∧ OwnF makP w' b o (marked mM cM l k) fp := by
  have HO := hidP hO
  have Hs := hidP hs
  have Hc := hidP hc
  clear hO hs hc
  go_enter Tryz.func26, Tryz.ntmps26
  go_wp2
  go_loopw [1, 5] (fun kk i w' => ∃ (n : Nat) (z : Int), i = .int .i64 (n : Int) ∧ kk = .int .i64 z ∧ n ≤ l.length ∧ 1 ≤ z ∧ z ≤ 100000000 ∧ Hid (z = k + (count cM (l.take n) : Int)) ∧ Hid (Offp (fun x => x = b ∨ ∃ i, fp i x) w w') ∧ Hid (OwnF makP w' b o (half mM cM l k n) fp)) (fun _ i _ => l.length - (intOf i).toNat)
  case atStart => exact ⟨0, k, rfl, rfl, by omega, hk, by omega, by simp [Hid, count], Offp.refl _ _, by rw [half_zero]; exact HO.out⟩
  case round =>
    obtain ⟨n, z, rfl, rfl, hn, hz1, hz2, hz, hoff, hown⟩ := hrel
    by_cases hlt : n < l.length
    · have hhl := half_length mM cM l k n
      have hge := half_get mM cM l k n hlt (by omega)
      have hit := Hs.out _ (List.getElem_mem hlt)
      obtain ⟨c0, c1, c2, c3, c4⟩ := hown.out.lst.getMC n (by omega)
      have hth := hown.out.th
      rw [hhl] at hth
      obtain ⟨_, f0⟩ := there_at (f := 0) hth hlt (by decide)
      obtain ⟨_, f1⟩ := there_at (f := 1) hth hlt (by decide)
      obtain ⟨_, f2⟩ := there_at (f := 2) hth hlt (by decide)
      obtain ⟨_, f3⟩ := there_at (f := 3) hth hlt (by decide)
      simp only [Nat.add_zero, show Cel.k MC = 5 from rfl] at f0 f1 f2 f3
      rw [hge] at c0 c1 c2 c3 c4
      have hsu := half_succ mM cM l k n hlt
      rw [← hz.out] at hsu
      have hcn : count cM (l.take n) + cM l[n] ≤ 50000000 := by rw [← count_snoc cM l n hlt]; exact Nat.le_trans (count_le cM l (n + 1)) Hc.out
      have Hsn := hidP (count_snoc cM l n hlt)
      generalize hx : l[n] = x at c0 c1 c2 c3 c4 hit hsu hcn hge Hsn
      obtain ⟨xr, xw, xe, xl, xA, xc, xi⟩ := x
      simp only at c0 c1 c2 c3 c4 hit
      have O1 := hown.out.set1 makP_firm n (by omega) ⟨z, xw, xe, xl, xA, xc, xi⟩ 0 (by decide) (.int .i64 z) (by rw [hge]; rfl) (fun W S h => by rw [hge] at h; exact h)
      have O2 := O1.set1 makP_firm n (by simp; omega) ⟨z, z + 1, xe, xl, xA, xc, xi⟩ 1 (by decide) (.int .i64 (z + 1)) (by rw [List.getElem_set_self]; rfl) (fun W S h => by rw [List.getElem_set_self] at h; exact h)
      have O3 := O2.set1 makP_firm n (by simp; omega) ⟨z, z + 1, z + 1 + 1, xl, xA, xc, xi⟩ 2 (by decide) (.int .i64 (z + 1 + 1)) (by rw [List.getElem_set_self]; rfl) (fun W S h => by rw [List.getElem_set_self] at h; exact h)
      have O4 := O3.set1 makP_firm n (by simp; omega) ⟨z, z + 1, z + 1 + 1, z + 1 + 1 + 1, xA, xc, xi⟩ 3 (by decide) (.int .i64 (z + 1 + 1 + 1)) (by rw [List.getElem_set_self]; rfl) (fun W S h => by rw [List.getElem_set_self] at h; exact h)
      simp only [Nat.add_zero, show Cel.k MC = 5 from rfl, List.set_set] at O4
      have Hhl := hidP hhl
      have Hsu := hidP hsu
      have Hcn := hidP hcn
      have HO2 := hidP O4
      have hsub := O4.sub n (by simp; omega)
      rw [List.getElem_set_self] at hsub
      have Hsub := hidP hsub
      have hz' := hz.out
      have hzc : z + 4 ≤ 100000000 := by
        have h3 := Hcn.out; simp only [cM] at h3; omega
      clear hx hhl hsu hcn O1 O2 O3 O4 hsub hge hth hz'
      go_wp2_with fail
      refine (mark_marks xA xc xi (fp n) _ (by omega) (by omega) (by omega) _ Hsub.out).mono ?_
      rintro e w1 ⟨rfl, ko, hsb⟩
      have hlim : xi.length * 2 + 4 ≤ 50000000 := by have := Hcn.out; simp only [cM] at this; omega
      go_wp2
      have hz' := hz.out
      have e2 : z + 1 + 1 = z + 2 := by omega
      have e3 : z + 1 + 1 + 1 = z + 3 := by omega
      have e4 : z + 1 + 1 + 1 + 1 = z + 4 := by omega
      have hcs : Cel.cs (mM ⟨xr, xw, xe, xl, xA, xc, xi⟩ z) = Cel.cs (⟨z, z + 1, z + 1 + 1, z + 1 + 1 + 1, xA, xc, xi⟩ : MC) := by
        simp only [Cel.cs, mM, marksMk_length, e2, show z + 2 + 1 = z + 3 by omega]
      have hsb' : makP w1 (mM ⟨xr, xw, xe, xl, xA, xc, xi⟩ z) (fp n) := by
        rw [e4] at hsb
        exact hsb
      have O3 := HO2.out.turn makP_firm n (by rw [List.length_set]; have := Hhl.out; omega) (mM ⟨xr, xw, xe, xl, xA, xc, xi⟩ z) (by rw [List.getElem_set_self]; exact hcs) ko hsb'
      rw [List.set_set, ← Hsu.out] at O3
      refine ⟨⟨n + 1, z + 1 + 1 + 1 + 1 + (xi.length : Int) * 2, by go_num, rfl, by omega, by omega, ?_, ?_, ?_, O3⟩, by simp [intOf]; omega⟩
      · have := Hcn.out; simp only [cM] at this; omega
      · show _ = _; rw [Hsn.out, hz']; simp only [cM]; omega
      · exact ((((hoff.out.set (.inl rfl) _ _).set (.inl rfl) _ _).set (.inl rfl) _ _).set (.inl rfl) _ _).trans (ko.mono (fun x hx => .inr ⟨n, hx⟩))
    · obtain rfl : n = l.length := by omega
      go_wp2
      go_ret
      have e := hz.out
      rw [count_all cM l _ (Nat.le_refl _)] at e
      have hh := hown.out
      rw [half_all mM cM l k _ (Nat.le_refl _)] at hh
      subst e
      exact ⟨rfl, hoff.out, hh⟩

set_option maxRecDepth 100000 in
set_option maxHeartbeats 1000000 in
theorem heldMakerS_any (A : Option Addr) (cap : Nat) (l : List MC) (k : Int) (hk : 1 ≤ k) (hk' : k ≤ 50000000) (hc : count cM l ≤ 50000000) (hl : l.length ≤ 1048576) (hs : ∀ x ∈ l, x.ms.length ≤ 1048576) (w : World) (hA : At w A (marked mM cM l k)) (hE : Each w (marked mM cM l k)) :
    Calls Tryz.prog 31 #[.slice A l.length cap, .int .i64 k] w fun e w' => e = .returned (.int .i64 (k + (count cM l : Int))) ∧ Below w.heap.size w w' := by
  have HA := hidP hA
  have HE := hidP hE
  have Hs := hidP hs
  have Hc := hidP hc
  clear hA hE hs hc
  have HML := hidP (marked_length mM cM l k)
  go_enter Tryz.func31, Tryz.ntmps31
  go_wp2
  go_loopw [1, 5] (fun kk i w' => ∃ (n : Nat) (z : Int), i = .int .i64 (n : Int) ∧ kk = .int .i64 z ∧ n ≤ l.length ∧ 1 ≤ z ∧ z ≤ 100000000 ∧ Hid (z = k + (count cM (l.take n) : Int)) ∧ Below w.heap.size w w') (fun _ i _ => l.length - (intOf i).toNat)
  case atStart => exact ⟨0, k, rfl, rfl, by omega, hk, by omega, by simp [Hid, count], Below.refl _ _⟩
  case round =>
    obtain ⟨n, z, rfl, rfl, hn, hz1, hz2, hz, hbl⟩ := hrel
    by_cases hlt : n < l.length
    · have hml := HML.out
      obtain ⟨b, o, rfl, hbs, hin⟩ : ∃ b o, A = some ⟨b, o, none⟩ ∧ b < w.heap.size ∧ In w b o (marked mM cM l k) := by
        rcases HA.out with h | h
        · rw [h] at hml; simp at hml; omega
        · exact h
      have hmn : n < (marked mM cM l k).length := by omega
      have hge := marked_get mM cM l n hlt k hmn
      rw [← hz.out] at hge
      obtain ⟨c0, c1, c2, c3, c4⟩ := (hin.below hbs hbl).getMC n hmn
      have hat := (HE.out _ (List.getElem_mem hmn)).below hbl
      rw [hge] at c0 c1 c2 c3 c4 hat
      have hit := Hs.out _ (List.getElem_mem hlt)
      have hcn : count cM (l.take n) + cM l[n] ≤ 50000000 := by rw [← count_snoc cM l n hlt]; exact Nat.le_trans (count_le cM l (n + 1)) Hc.out
      have Hsn := hidP (count_snoc cM l n hlt)
      generalize hx : l[n] = x at c0 c1 c2 c3 c4 hit hcn hat Hsn
      obtain ⟨xr, xw, xe, xl, xA, xc, xi⟩ := x
      simp only [mM, marksMk_length] at c0 c1 c2 c3 c4 hit hat
      have e3 : z + 3 = z + 1 + 1 + 1 := by omega
      have e2 : z + 2 = z + 1 + 1 := by omega
      rw [e3] at c3
      rw [e2] at c2
      clear e2 e3
      have HAt : Hid (xi.length = 0 ∨ ∃ b o, xA = some ⟨b, o, none⟩ ∧ b < wr.heap.size ∧ In wr b o (marksMk xi.length (z + 1 + 1 + 1 + 1))) := by
        have e2 : z + 1 + 1 + 1 + 1 = z + 4 := by omega
        rw [e2]
        rcases hat with h | h
        · exact .inl (by have := congrArg List.length h; simpa [marksMk_length] using this)
        · exact .inr h
      have Hcn := hidP hcn
      have hzc : z + 4 ≤ 100000000 := by
        have h3 := hz.out; have h4 := Hcn.out; simp only [cM] at h4; omega
      have hlim : xi.length * 2 + 4 ≤ 50000000 := by have := Hcn.out; simp only [cM] at this; omega
      clear hml hge hx hcn hat
      have hneg : ¬ z + 1 + 1 + 1 + 1 + (xi.length : Int) * 2 < 0 := by omega
      go_wp2_with fail
      refine (heldMkS_any xA xc xi.length (z + 1 + 1 + 1 + 1) (by omega) (by omega) (by omega) _ HAt.out).mono ?_
      rintro e w1 ⟨rfl, rfl⟩
      go_wp2
      have hz' := hz.out
      refine ⟨⟨n + 1, z + 1 + 1 + 1 + 1 + (xi.length : Int) * 2, by go_num, rfl, by omega, by omega, ?_, ?_, hbl⟩, by simp [intOf]; omega⟩
      · have := Hcn.out; simp only [cM] at this; omega
      · show _ = _; rw [Hsn.out, hz']; simp only [cM]; omega
    · obtain rfl : n = l.length := by omega
      go_wp2
      go_ret
      have e := hz.out
      rw [count_all cM l _ (Nat.le_refl _)] at e
      subst e
      exact ⟨rfl, hbl⟩

end Go.Proofs.YtjjbbkmedpfenaaGreat.Gen

/-
  Records whose last field is a list, read by the program's reader: rows, makers. Condition: at most 1048576 bytes.
-/
namespace Go.Proofs.YtjjbbkmedpfenaaGreat.Gen
open Go.ChangeShapes Go.WideShapes Go.ChangeAt Go.RowKit Go.Joins Go.Deep Base
open Items (It)
set_option linter.unusedVariables false
set_option linter.unusedSimpArgs false

def getRw (l : List UInt8) (i : Int) : Option (PR × Nat) := match getN l i with | none => none | some (n1, c1) => match getN l (c1 : Int) with | none => none | some (n2, c2) => match getList l (getIt l) (c2 : Int) with | none => none | some (s3, c3) => some (⟨(n1 : Int), (n2 : Int), s3⟩, c3)
def isRw (B : Nat) (x : PR) (v : Value) (W : World) : Prop := ∃ u, v = .agg #[.int .i64 x.start, .int .i64 x.next, u] ∧ isList 118 B x.its u W
theorem getRw_le {l : List UInt8} {i : Nat} {x : PR} {c : Nat} (h : getRw l (i : Int) = some (x, c)) : i < c ∧ c ≤ l.length := by
  unfold getRw at h
  cases hx1 : getN l (i : Int) with
  | none => simp [hx1] at h
  | some p1 =>
  obtain ⟨n1, c1⟩ := p1
  have hl1 := getN_le hx1
  cases hx2 : getN l (c1 : Int) with
  | none => simp [hx1, hx2] at h
  | some p2 =>
  obtain ⟨n2, c2⟩ := p2
  have hl2 := getN_le hx2
  cases hx3 : getList l (getIt l) (c2 : Int) with
  | none => simp [hx1, hx2, hx3] at h
  | some p3 =>
  obtain ⟨s3, c3⟩ := p3
  have hl3 := getList_le (fun i x c h => getIt_le h) hx3
  simp [hx1, hx2, hx3] at h
  omega
set_option maxRecDepth 100000 in
set_option maxHeartbeats 4000000 in
theorem readRw_any (r : Nat) (A : Option Addr) (cap : Nat) (l : List UInt8) (i : Int) (hl : l.length ≤ 1048576) (hcap : l.length ≤ cap) (hcm : cap ≤ 9223372036854775807) (w : World) (h : Rd w r A cap l i) :
    Calls Tryz.prog 48 #[.pointer (some ⟨r, 0, none⟩)] w fun e w' => Reads (isRw w.heap.size) r A cap l w e w' (getRw l i) := by
  obtain ⟨hr, hfar⟩ := h.far'
  have Hfar : Hid (l = [] ∨ ∀ c o, A = some ⟨c, o, none⟩ → c ≠ w.heap.size + 1) := hidP (hfar.imp id fun h c o e => by have := h c o e; omega)
  have Hfar0 : Hid (l = [] ∨ ∀ c o, A = some ⟨c, o, none⟩ → c ≠ w.heap.size) := hidP (hfar.imp id fun h c o e => by have := h c o e; omega)
  have px0 := Blk.new (w.alloc (.cells #[.int .i64 0, .int .i64 0, .slice none 0 0] 67)) 67 #[.int .i64 0, .int .i64 0, .slice none 0 0]
  have pr0 := (Blk.new w 67 #[.int .i64 0, .int .i64 0, .slice none 0 0]).alloc (.cells #[.int .i64 0, .int .i64 0, .slice none 0 0] 67)
  simp only [World.size_alloc] at px0
  have HC0 := hidP (h.below (alloc0 (alloc0 (Below.refl _ w) (.cells #[.int .i64 0, .int .i64 0, .slice none 0 0] 67)) (.cells #[.int .i64 0, .int .i64 0, .slice none 0 0] 67)))
  have HO0 : Hid (Only r w ((w.alloc (.cells #[.int .i64 0, .int .i64 0, .slice none 0 0] 67)).alloc (.cells #[.int .i64 0, .int .i64 0, .slice none 0 0] 67))) := (Only.refl r w).below (alloc0 (alloc0 (Below.refl _ w) _) _)
  have Hpx0 := hidP px0
  have Hpr0 := hidP pr0
  clear px0 pr0 h hfar
  go_enter Tryz.func48, Tryz.ntmps48
  go_wp2_with fail
  refine (readNum_any r A cap l (i) hl _ HC0.out).mono ?_
  intro e w1 h1
  cases hx1 : getN l (i) with
  | none =>
    have hN : getRw l i = none := by simp [getRw, hx1]
    rw [hx1] at h1
    obtain ⟨o1, t, v, rfl⟩ := h1
    refine ⟨rfl, ?_⟩
    rw [hN]
    exact ⟨only_trans HO0.out o1, t, v, rfl⟩
  | some x =>
  obtain ⟨n1, c1⟩ := x
  rw [hx1] at h1
  obtain ⟨o1, h1, v, rfl, rfl⟩ := h1
  have hle1 := getN_le hx1
  have p1 : Blk w1 (w.heap.size + 1) 67 #[.int .i64 0, .int .i64 0, .slice none 0 0] := Hpx0.out.only o1 (by omega)
  have g1 := Hpr0.out.only o1 (by omega)
  have d1 : w1.cell? ⟨w.heap.size + 1, 0, none⟩ = some (.int .i64 0) := p1.cell (i := 0) rfl
  have f1 := p1.thaw 0
  have q1' := p1.lt
  have Hpx1 : Hid (Blk (w1.setCell ⟨w.heap.size + 1, 0, none⟩ (Value.int .i64 (n1 : Int))) (w.heap.size + 1) 67 #[Value.int .i64 (n1 : Int), .int .i64 0, .slice none 0 0]) := hidP (p1.setAt 0 (Value.int .i64 (n1 : Int)))
  have Hpr1 := hidP (g1.other (show w.heap.size ≠ w.heap.size + 1 by omega) 0 (Value.int .i64 (n1 : Int)))
  have HC1 := hidP (h1.offp (Offp.of_only ((Only.refl (w.heap.size + 1) w1).set 0 (Value.int .i64 (n1 : Int)))) (by show r ≠ _; omega) Hfar.out)
  have HO1 := hidP (only_offp (only_trans HO0.out o1) (Offp.of_only ((Only.refl (w.heap.size + 1) w1).set 0 (Value.int .i64 (n1 : Int)))) (fun x e => by subst e; omega))
  clear o1 h1 p1 g1 HC0 HO0 Hpx0 Hpr0
  go_wp2_with fail
  refine (readNum_any r A cap l ((c1 : Int)) hl _ HC1.out).mono ?_
  intro e w2 h2
  cases hx2 : getN l ((c1 : Int)) with
  | none =>
    have hN : getRw l i = none := by simp [getRw, hx1, hx2]
    rw [hx2] at h2
    obtain ⟨o2, t, v, rfl⟩ := h2
    refine ⟨rfl, ?_⟩
    rw [hN]
    exact ⟨only_trans HO1.out o2, t, v, rfl⟩
  | some x =>
  obtain ⟨n2, c2⟩ := x
  rw [hx2] at h2
  obtain ⟨o2, h2, v, rfl, rfl⟩ := h2
  have hle2 := getN_le hx2
  have p2 : Blk w2 (w.heap.size + 1) 67 #[Value.int .i64 (n1 : Int), .int .i64 0, .slice none 0 0] := Hpx1.out.only o2 (by omega)
  have g2 := Hpr1.out.only o2 (by omega)
  have d2 : w2.cell? ⟨w.heap.size + 1, 1, none⟩ = some (.int .i64 0) := p2.cell (i := 1) rfl
  have f2 := p2.thaw 1
  have q2' := p2.lt
  have Hpx2 : Hid (Blk (w2.setCell ⟨w.heap.size + 1, 1, none⟩ (Value.int .i64 (n2 : Int))) (w.heap.size + 1) 67 #[Value.int .i64 (n1 : Int), Value.int .i64 (n2 : Int), .slice none 0 0]) := hidP (p2.setAt 1 (Value.int .i64 (n2 : Int)))
  have Hpr2 := hidP (g2.other (show w.heap.size ≠ w.heap.size + 1 by omega) 1 (Value.int .i64 (n2 : Int)))
  have HC2 := hidP (h2.offp (Offp.of_only ((Only.refl (w.heap.size + 1) w2).set 1 (Value.int .i64 (n2 : Int)))) (by show r ≠ _; omega) Hfar.out)
  have HO2 := hidP (only_offp (only_trans HO1.out o2) (Offp.of_only ((Only.refl (w.heap.size + 1) w2).set 1 (Value.int .i64 (n2 : Int)))) (fun x e => by subst e; omega))
  clear o2 h2 p2 g2 HC1 HO1 Hpx1 Hpr1 d1 f1 q1'
  go_wp2_with fail
  refine (readListIt_any r A cap l ((c2 : Int)) hl hcap hcm _ HC2.out).mono ?_
  intro e w3 h3
  cases hx3 : getList l (getIt l) ((c2 : Int)) with
  | none =>
    have hN : getRw l i = none := by simp [getRw, hx1, hx2, hx3]
    rw [hx3] at h3
    obtain ⟨o3, t, v, rfl⟩ := h3
    refine ⟨rfl, ?_⟩
    rw [hN]
    exact ⟨only_trans HO2.out o3, t, v, rfl⟩
  | some x =>
  obtain ⟨s3, c3⟩ := x
  rw [hx3] at h3
  obtain ⟨o3, h3, v, rfl, hv⟩ := h3
  have hle3 := getList_le (fun i x c h => getIt_le h) hx3
  have hv' := hv.mono (B' := w.heap.size + 2) (Nat.succ_le_of_lt Hpx2.out.lt)
  obtain ⟨a, cp, rfl, hown⟩ := hv'
  have HL1 := owns_only' hown ((Only.refl (w.heap.size + 1) w3).set 2 (Value.slice a (List.length s3) cp)) (by omega)
  clear hv hown
  have p3 : Blk w3 (w.heap.size + 1) 67 #[Value.int .i64 (n1 : Int), Value.int .i64 (n2 : Int), .slice none 0 0] := Hpx2.out.only o3 (by omega)
  have g3 := Hpr2.out.only o3 (by omega)
  have d3 : w3.cell? ⟨w.heap.size + 1, 2, none⟩ = some (.slice none 0 0) := p3.cell (i := 2) rfl
  have f3 := p3.thaw 2
  have q3' := p3.lt
  have e0 : w3.cell? ⟨w.heap.size + 1, 0, none⟩ = some (Value.int .i64 (n1 : Int)) := p3.cell (i := 0) rfl
  have e1 : w3.cell? ⟨w.heap.size + 1, 1, none⟩ = some (Value.int .i64 (n2 : Int)) := p3.cell (i := 1) rfl
  have r0 : w3.cell? ⟨w.heap.size, 0, none⟩ = some (.int .i64 0) := g3.cell (i := 0) rfl
  have z0 := g3.thaw 0
  have r1 : w3.cell? ⟨w.heap.size, 1, none⟩ = some (.int .i64 0) := g3.cell (i := 1) rfl
  have z1 := g3.thaw 1
  have r2 : w3.cell? ⟨w.heap.size, 2, none⟩ = some (.slice none 0 0) := g3.cell (i := 2) rfl
  have z2 := g3.thaw 2
  have qr := g3.lt
  have Hpx3 : Hid (Blk (w3.setCell ⟨w.heap.size + 1, 2, none⟩ (Value.slice a (List.length s3) cp)) (w.heap.size + 1) 67 #[Value.int .i64 (n1 : Int), Value.int .i64 (n2 : Int), Value.slice a (List.length s3) cp]) := hidP (p3.setAt 2 (Value.slice a (List.length s3) cp))
  have Hpr3 := hidP (g3.other (show w.heap.size ≠ w.heap.size + 1 by omega) 2 (Value.slice a (List.length s3) cp))
  have HC3 := hidP (h3.offp (Offp.of_only ((Only.refl (w.heap.size + 1) w3).set 2 (Value.slice a (List.length s3) cp))) (by show r ≠ _; omega) Hfar.out)
  have HO3 := hidP (only_offp (only_trans HO2.out o3) (Offp.of_only ((Only.refl (w.heap.size + 1) w3).set 2 (Value.slice a (List.length s3) cp))) (fun x e => by subst e; omega))
  clear o3 h3 p3 g3 HC2 HO2 Hpx2 Hpr2 d2 f2 q2'
  have HOz := hidP (only_offp (only_offp (only_offp (HO3.out) (Offp.of_only ((Only.refl w.heap.size _).set 0 (Value.int .i64 (n1 : Int)))) (fun x e => by subst e; exact Nat.le_refl _)) (Offp.of_only ((Only.refl w.heap.size _).set 1 (Value.int .i64 (n2 : Int)))) (fun x e => by subst e; exact Nat.le_refl _)) (Offp.of_only ((Only.refl w.heap.size _).set 2 (Value.slice a (List.length s3) cp))) (fun x e => by subst e; exact Nat.le_refl _))
  have HCz := hidP (Rd.offp (Rd.offp (Rd.offp (HC3.out) (Offp.of_only ((Only.refl w.heap.size _).set 0 (Value.int .i64 (n1 : Int)))) (by show r ≠ _; omega) Hfar0.out) (Offp.of_only ((Only.refl w.heap.size _).set 1 (Value.int .i64 (n2 : Int)))) (by show r ≠ _; omega) Hfar0.out) (Offp.of_only ((Only.refl w.heap.size _).set 2 (Value.slice a (List.length s3) cp))) (by show r ≠ _; omega) Hfar0.out)
  have HLz := hidP (owns_only' (owns_only' (owns_only' (HL1) ((Only.refl w.heap.size _).set 0 (Value.int .i64 (n1 : Int))) (by omega)) ((Only.refl w.heap.size _).set 1 (Value.int .i64 (n2 : Int))) (by omega)) ((Only.refl w.heap.size _).set 2 (Value.slice a (List.length s3) cp)) (by omega))
  have hN : Hid (getRw l i = some (⟨(n1 : Int), (n2 : Int), s3⟩, c3)) := hidP (by simp [getRw, hx1, hx2, hx3])
  clear HO3 HC3 Hpx3 Hpr3 HL1
  go_wp2
  refine bodyPost_ret (v := .agg #[Value.int .i64 (n1 : Int), Value.int .i64 (n2 : Int), Value.slice a (List.length s3) cp]) (by simp [results, Tryz.results48, go_sem, r0, r1, r2]) rfl ?_
  rw [hN.out]
  exact ⟨HOz.out, HCz.out, _, rfl, _, rfl, isList.mono ⟨a, cp, rfl, HLz.out⟩ (Nat.le_add_right _ 2)⟩

def getMr (l : List UInt8) (i : Int) : Option (PM × Nat) := match getN l i with | none => none | some (n1, c1) => match getN l (c1 : Int) with | none => none | some (n2, c2) => match getN l (c2 : Int) with | none => none | some (n3, c3) => match getN l (c3 : Int) with | none => none | some (n4, c4) => match getList l (getMk l) (c4 : Int) with | none => none | some (s5, c5) => some (⟨(n1 : Int), (n2 : Int), (n3 : Int), (n4 : Int) - 1, s5⟩, c5)
def isMr (B : Nat) (x : PM) (v : Value) (W : World) : Prop := ∃ u, v = .agg #[.int .i64 x.row, .int .i64 x.who, .int .i64 x.epoch, .int .i64 x.last, u] ∧ isList 120 B x.ms u W
theorem getMr_le {l : List UInt8} {i : Nat} {x : PM} {c : Nat} (h : getMr l (i : Int) = some (x, c)) : i < c ∧ c ≤ l.length := by
  unfold getMr at h
  cases hx1 : getN l (i : Int) with
  | none => simp [hx1] at h
  | some p1 =>
  obtain ⟨n1, c1⟩ := p1
  have hl1 := getN_le hx1
  cases hx2 : getN l (c1 : Int) with
  | none => simp [hx1, hx2] at h
  | some p2 =>
  obtain ⟨n2, c2⟩ := p2
  have hl2 := getN_le hx2
  cases hx3 : getN l (c2 : Int) with
  | none => simp [hx1, hx2, hx3] at h
  | some p3 =>
  obtain ⟨n3, c3⟩ := p3
  have hl3 := getN_le hx3
  cases hx4 : getN l (c3 : Int) with
  | none => simp [hx1, hx2, hx3, hx4] at h
  | some p4 =>
  obtain ⟨n4, c4⟩ := p4
  have hl4 := getN_le hx4
  cases hx5 : getList l (getMk l) (c4 : Int) with
  | none => simp [hx1, hx2, hx3, hx4, hx5] at h
  | some p5 =>
  obtain ⟨s5, c5⟩ := p5
  have hl5 := getList_le (fun i x c h => getMk_le h) hx5
  simp [hx1, hx2, hx3, hx4, hx5] at h
  omega
set_option maxRecDepth 100000 in
set_option maxHeartbeats 4000000 in
theorem readMr_any (r : Nat) (A : Option Addr) (cap : Nat) (l : List UInt8) (i : Int) (hl : l.length ≤ 1048576) (hcap : l.length ≤ cap) (hcm : cap ≤ 9223372036854775807) (w : World) (h : Rd w r A cap l i) :
    Calls Tryz.prog 50 #[.pointer (some ⟨r, 0, none⟩)] w fun e w' => Reads (isMr w.heap.size) r A cap l w e w' (getMr l i) := by
  obtain ⟨hr, hfar⟩ := h.far'
  have Hfar : Hid (l = [] ∨ ∀ c o, A = some ⟨c, o, none⟩ → c ≠ w.heap.size + 1) := hidP (hfar.imp id fun h c o e => by have := h c o e; omega)
  have Hfar0 : Hid (l = [] ∨ ∀ c o, A = some ⟨c, o, none⟩ → c ≠ w.heap.size) := hidP (hfar.imp id fun h c o e => by have := h c o e; omega)
  have px0 := Blk.new (w.alloc (.cells #[.int .i64 0, .int .i64 0, .int .i64 0, .int .i64 0, .slice none 0 0] 71)) 71 #[.int .i64 0, .int .i64 0, .int .i64 0, .int .i64 0, .slice none 0 0]
  have pr0 := (Blk.new w 71 #[.int .i64 0, .int .i64 0, .int .i64 0, .int .i64 0, .slice none 0 0]).alloc (.cells #[.int .i64 0, .int .i64 0, .int .i64 0, .int .i64 0, .slice none 0 0] 71)
  simp only [World.size_alloc] at px0
  have HC0 := hidP (h.below (alloc0 (alloc0 (Below.refl _ w) (.cells #[.int .i64 0, .int .i64 0, .int .i64 0, .int .i64 0, .slice none 0 0] 71)) (.cells #[.int .i64 0, .int .i64 0, .int .i64 0, .int .i64 0, .slice none 0 0] 71)))
  have HO0 : Hid (Only r w ((w.alloc (.cells #[.int .i64 0, .int .i64 0, .int .i64 0, .int .i64 0, .slice none 0 0] 71)).alloc (.cells #[.int .i64 0, .int .i64 0, .int .i64 0, .int .i64 0, .slice none 0 0] 71))) := (Only.refl r w).below (alloc0 (alloc0 (Below.refl _ w) _) _)
  have Hpx0 := hidP px0
  have Hpr0 := hidP pr0
  clear px0 pr0 h hfar
  go_enter Tryz.func50, Tryz.ntmps50
  go_wp2_with fail
  refine (readNum_any r A cap l (i) hl _ HC0.out).mono ?_
  intro e w1 h1
  cases hx1 : getN l (i) with
  | none =>
    have hN : getMr l i = none := by simp [getMr, hx1]
    rw [hx1] at h1
    obtain ⟨o1, t, v, rfl⟩ := h1
    refine ⟨rfl, ?_⟩
    rw [hN]
    exact ⟨only_trans HO0.out o1, t, v, rfl⟩
  | some x =>
  obtain ⟨n1, c1⟩ := x
  rw [hx1] at h1
  obtain ⟨o1, h1, v, rfl, rfl⟩ := h1
  have hle1 := getN_le hx1
  have p1 : Blk w1 (w.heap.size + 1) 71 #[.int .i64 0, .int .i64 0, .int .i64 0, .int .i64 0, .slice none 0 0] := Hpx0.out.only o1 (by omega)
  have g1 := Hpr0.out.only o1 (by omega)
  have d1 : w1.cell? ⟨w.heap.size + 1, 0, none⟩ = some (.int .i64 0) := p1.cell (i := 0) rfl
  have f1 := p1.thaw 0
  have q1' := p1.lt
  have Hpx1 : Hid (Blk (w1.setCell ⟨w.heap.size + 1, 0, none⟩ (Value.int .i64 (n1 : Int))) (w.heap.size + 1) 71 #[Value.int .i64 (n1 : Int), .int .i64 0, .int .i64 0, .int .i64 0, .slice none 0 0]) := hidP (p1.setAt 0 (Value.int .i64 (n1 : Int)))
  have Hpr1 := hidP (g1.other (show w.heap.size ≠ w.heap.size + 1 by omega) 0 (Value.int .i64 (n1 : Int)))
  have HC1 := hidP (h1.offp (Offp.of_only ((Only.refl (w.heap.size + 1) w1).set 0 (Value.int .i64 (n1 : Int)))) (by show r ≠ _; omega) Hfar.out)
  have HO1 := hidP (only_offp (only_trans HO0.out o1) (Offp.of_only ((Only.refl (w.heap.size + 1) w1).set 0 (Value.int .i64 (n1 : Int)))) (fun x e => by subst e; omega))
  clear o1 h1 p1 g1 HC0 HO0 Hpx0 Hpr0
  go_wp2_with fail
  refine (readNum_any r A cap l ((c1 : Int)) hl _ HC1.out).mono ?_
  intro e w2 h2
  cases hx2 : getN l ((c1 : Int)) with
  | none =>
    have hN : getMr l i = none := by simp [getMr, hx1, hx2]
    rw [hx2] at h2
    obtain ⟨o2, t, v, rfl⟩ := h2
    refine ⟨rfl, ?_⟩
    rw [hN]
    exact ⟨only_trans HO1.out o2, t, v, rfl⟩
  | some x =>
  obtain ⟨n2, c2⟩ := x
  rw [hx2] at h2
  obtain ⟨o2, h2, v, rfl, rfl⟩ := h2
  have hle2 := getN_le hx2
  have p2 : Blk w2 (w.heap.size + 1) 71 #[Value.int .i64 (n1 : Int), .int .i64 0, .int .i64 0, .int .i64 0, .slice none 0 0] := Hpx1.out.only o2 (by omega)
  have g2 := Hpr1.out.only o2 (by omega)
  have d2 : w2.cell? ⟨w.heap.size + 1, 1, none⟩ = some (.int .i64 0) := p2.cell (i := 1) rfl
  have f2 := p2.thaw 1
  have q2' := p2.lt
  have Hpx2 : Hid (Blk (w2.setCell ⟨w.heap.size + 1, 1, none⟩ (Value.int .i64 (n2 : Int))) (w.heap.size + 1) 71 #[Value.int .i64 (n1 : Int), Value.int .i64 (n2 : Int), .int .i64 0, .int .i64 0, .slice none 0 0]) := hidP (p2.setAt 1 (Value.int .i64 (n2 : Int)))
  have Hpr2 := hidP (g2.other (show w.heap.size ≠ w.heap.size + 1 by omega) 1 (Value.int .i64 (n2 : Int)))
  have HC2 := hidP (h2.offp (Offp.of_only ((Only.refl (w.heap.size + 1) w2).set 1 (Value.int .i64 (n2 : Int)))) (by show r ≠ _; omega) Hfar.out)
  have HO2 := hidP (only_offp (only_trans HO1.out o2) (Offp.of_only ((Only.refl (w.heap.size + 1) w2).set 1 (Value.int .i64 (n2 : Int)))) (fun x e => by subst e; omega))
  clear o2 h2 p2 g2 HC1 HO1 Hpx1 Hpr1 d1 f1 q1'
  go_wp2_with fail
  refine (readNum_any r A cap l ((c2 : Int)) hl _ HC2.out).mono ?_
  intro e w3 h3
  cases hx3 : getN l ((c2 : Int)) with
  | none =>
    have hN : getMr l i = none := by simp [getMr, hx1, hx2, hx3]
    rw [hx3] at h3
    obtain ⟨o3, t, v, rfl⟩ := h3
    refine ⟨rfl, ?_⟩
    rw [hN]
    exact ⟨only_trans HO2.out o3, t, v, rfl⟩
  | some x =>
  obtain ⟨n3, c3⟩ := x
  rw [hx3] at h3
  obtain ⟨o3, h3, v, rfl, rfl⟩ := h3
  have hle3 := getN_le hx3
  have p3 : Blk w3 (w.heap.size + 1) 71 #[Value.int .i64 (n1 : Int), Value.int .i64 (n2 : Int), .int .i64 0, .int .i64 0, .slice none 0 0] := Hpx2.out.only o3 (by omega)
  have g3 := Hpr2.out.only o3 (by omega)
  have d3 : w3.cell? ⟨w.heap.size + 1, 2, none⟩ = some (.int .i64 0) := p3.cell (i := 2) rfl
  have f3 := p3.thaw 2
  have q3' := p3.lt
  have Hpx3 : Hid (Blk (w3.setCell ⟨w.heap.size + 1, 2, none⟩ (Value.int .i64 (n3 : Int))) (w.heap.size + 1) 71 #[Value.int .i64 (n1 : Int), Value.int .i64 (n2 : Int), Value.int .i64 (n3 : Int), .int .i64 0, .slice none 0 0]) := hidP (p3.setAt 2 (Value.int .i64 (n3 : Int)))
  have Hpr3 := hidP (g3.other (show w.heap.size ≠ w.heap.size + 1 by omega) 2 (Value.int .i64 (n3 : Int)))
  have HC3 := hidP (h3.offp (Offp.of_only ((Only.refl (w.heap.size + 1) w3).set 2 (Value.int .i64 (n3 : Int)))) (by show r ≠ _; omega) Hfar.out)
  have HO3 := hidP (only_offp (only_trans HO2.out o3) (Offp.of_only ((Only.refl (w.heap.size + 1) w3).set 2 (Value.int .i64 (n3 : Int)))) (fun x e => by subst e; omega))
  clear o3 h3 p3 g3 HC2 HO2 Hpx2 Hpr2 d2 f2 q2'
  go_wp2_with fail
  refine (readNum_any r A cap l ((c3 : Int)) hl _ HC3.out).mono ?_
  intro e w4 h4
  cases hx4 : getN l ((c3 : Int)) with
  | none =>
    have hN : getMr l i = none := by simp [getMr, hx1, hx2, hx3, hx4]
    rw [hx4] at h4
    obtain ⟨o4, t, v, rfl⟩ := h4
    refine ⟨rfl, ?_⟩
    rw [hN]
    exact ⟨only_trans HO3.out o4, t, v, rfl⟩
  | some x =>
  obtain ⟨n4, c4⟩ := x
  rw [hx4] at h4
  obtain ⟨o4, h4, v, rfl, rfl⟩ := h4
  have hle4 := getN_le hx4
  have p4 : Blk w4 (w.heap.size + 1) 71 #[Value.int .i64 (n1 : Int), Value.int .i64 (n2 : Int), Value.int .i64 (n3 : Int), .int .i64 0, .slice none 0 0] := Hpx3.out.only o4 (by omega)
  have g4 := Hpr3.out.only o4 (by omega)
  have d4 : w4.cell? ⟨w.heap.size + 1, 3, none⟩ = some (.int .i64 0) := p4.cell (i := 3) rfl
  have f4 := p4.thaw 3
  have q4' := p4.lt
  have Hpx4 : Hid (Blk (w4.setCell ⟨w.heap.size + 1, 3, none⟩ (Value.int .i64 ((n4 : Int) - 1))) (w.heap.size + 1) 71 #[Value.int .i64 (n1 : Int), Value.int .i64 (n2 : Int), Value.int .i64 (n3 : Int), Value.int .i64 ((n4 : Int) - 1), .slice none 0 0]) := hidP (p4.setAt 3 (Value.int .i64 ((n4 : Int) - 1)))
  have Hpr4 := hidP (g4.other (show w.heap.size ≠ w.heap.size + 1 by omega) 3 (Value.int .i64 ((n4 : Int) - 1)))
  have HC4 := hidP (h4.offp (Offp.of_only ((Only.refl (w.heap.size + 1) w4).set 3 (Value.int .i64 ((n4 : Int) - 1)))) (by show r ≠ _; omega) Hfar.out)
  have HO4 := hidP (only_offp (only_trans HO3.out o4) (Offp.of_only ((Only.refl (w.heap.size + 1) w4).set 3 (Value.int .i64 ((n4 : Int) - 1)))) (fun x e => by subst e; omega))
  clear o4 h4 p4 g4 HC3 HO3 Hpx3 Hpr3 d3 f3 q3'
  go_wp2_with fail
  refine (readListMk_any r A cap l ((c4 : Int)) hl hcap hcm _ HC4.out).mono ?_
  intro e w5 h5
  cases hx5 : getList l (getMk l) ((c4 : Int)) with
  | none =>
    have hN : getMr l i = none := by simp [getMr, hx1, hx2, hx3, hx4, hx5]
    rw [hx5] at h5
    obtain ⟨o5, t, v, rfl⟩ := h5
    refine ⟨rfl, ?_⟩
    rw [hN]
    exact ⟨only_trans HO4.out o5, t, v, rfl⟩
  | some x =>
  obtain ⟨s5, c5⟩ := x
  rw [hx5] at h5
  obtain ⟨o5, h5, v, rfl, hv⟩ := h5
  have hle5 := getList_le (fun i x c h => getMk_le h) hx5
  have hv' := hv.mono (B' := w.heap.size + 2) (Nat.succ_le_of_lt Hpx4.out.lt)
  obtain ⟨a, cp, rfl, hown⟩ := hv'
  have HL1 := owns_only' hown ((Only.refl (w.heap.size + 1) w5).set 4 (Value.slice a (List.length s5) cp)) (by omega)
  clear hv hown
  have p5 : Blk w5 (w.heap.size + 1) 71 #[Value.int .i64 (n1 : Int), Value.int .i64 (n2 : Int), Value.int .i64 (n3 : Int), Value.int .i64 ((n4 : Int) - 1), .slice none 0 0] := Hpx4.out.only o5 (by omega)
  have g5 := Hpr4.out.only o5 (by omega)
  have d5 : w5.cell? ⟨w.heap.size + 1, 4, none⟩ = some (.slice none 0 0) := p5.cell (i := 4) rfl
  have f5 := p5.thaw 4
  have q5' := p5.lt
  have e0 : w5.cell? ⟨w.heap.size + 1, 0, none⟩ = some (Value.int .i64 (n1 : Int)) := p5.cell (i := 0) rfl
  have e1 : w5.cell? ⟨w.heap.size + 1, 1, none⟩ = some (Value.int .i64 (n2 : Int)) := p5.cell (i := 1) rfl
  have e2 : w5.cell? ⟨w.heap.size + 1, 2, none⟩ = some (Value.int .i64 (n3 : Int)) := p5.cell (i := 2) rfl
  have e3 : w5.cell? ⟨w.heap.size + 1, 3, none⟩ = some (Value.int .i64 ((n4 : Int) - 1)) := p5.cell (i := 3) rfl
  have r0 : w5.cell? ⟨w.heap.size, 0, none⟩ = some (.int .i64 0) := g5.cell (i := 0) rfl
  have z0 := g5.thaw 0
  have r1 : w5.cell? ⟨w.heap.size, 1, none⟩ = some (.int .i64 0) := g5.cell (i := 1) rfl
  have z1 := g5.thaw 1
  have r2 : w5.cell? ⟨w.heap.size, 2, none⟩ = some (.int .i64 0) := g5.cell (i := 2) rfl
  have z2 := g5.thaw 2
  have r3 : w5.cell? ⟨w.heap.size, 3, none⟩ = some (.int .i64 0) := g5.cell (i := 3) rfl
  have z3 := g5.thaw 3
  have r4 : w5.cell? ⟨w.heap.size, 4, none⟩ = some (.slice none 0 0) := g5.cell (i := 4) rfl
  have z4 := g5.thaw 4
  have qr := g5.lt
  have Hpx5 : Hid (Blk (w5.setCell ⟨w.heap.size + 1, 4, none⟩ (Value.slice a (List.length s5) cp)) (w.heap.size + 1) 71 #[Value.int .i64 (n1 : Int), Value.int .i64 (n2 : Int), Value.int .i64 (n3 : Int), Value.int .i64 ((n4 : Int) - 1), Value.slice a (List.length s5) cp]) := hidP (p5.setAt 4 (Value.slice a (List.length s5) cp))
  have Hpr5 := hidP (g5.other (show w.heap.size ≠ w.heap.size + 1 by omega) 4 (Value.slice a (List.length s5) cp))
  have HC5 := hidP (h5.offp (Offp.of_only ((Only.refl (w.heap.size + 1) w5).set 4 (Value.slice a (List.length s5) cp))) (by show r ≠ _; omega) Hfar.out)
  have HO5 := hidP (only_offp (only_trans HO4.out o5) (Offp.of_only ((Only.refl (w.heap.size + 1) w5).set 4 (Value.slice a (List.length s5) cp))) (fun x e => by subst e; omega))
  clear o5 h5 p5 g5 HC4 HO4 Hpx4 Hpr4 d4 f4 q4'
  have HOz := hidP (only_offp (only_offp (only_offp (only_offp (only_offp (HO5.out) (Offp.of_only ((Only.refl w.heap.size _).set 0 (Value.int .i64 (n1 : Int)))) (fun x e => by subst e; exact Nat.le_refl _)) (Offp.of_only ((Only.refl w.heap.size _).set 1 (Value.int .i64 (n2 : Int)))) (fun x e => by subst e; exact Nat.le_refl _)) (Offp.of_only ((Only.refl w.heap.size _).set 2 (Value.int .i64 (n3 : Int)))) (fun x e => by subst e; exact Nat.le_refl _)) (Offp.of_only ((Only.refl w.heap.size _).set 3 (Value.int .i64 ((n4 : Int) - 1)))) (fun x e => by subst e; exact Nat.le_refl _)) (Offp.of_only ((Only.refl w.heap.size _).set 4 (Value.slice a (List.length s5) cp))) (fun x e => by subst e; exact Nat.le_refl _))
  have HCz := hidP (Rd.offp (Rd.offp (Rd.offp (Rd.offp (Rd.offp (HC5.out) (Offp.of_only ((Only.refl w.heap.size _).set 0 (Value.int .i64 (n1 : Int)))) (by show r ≠ _; omega) Hfar0.out) (Offp.of_only ((Only.refl w.heap.size _).set 1 (Value.int .i64 (n2 : Int)))) (by show r ≠ _; omega) Hfar0.out) (Offp.of_only ((Only.refl w.heap.size _).set 2 (Value.int .i64 (n3 : Int)))) (by show r ≠ _; omega) Hfar0.out) (Offp.of_only ((Only.refl w.heap.size _).set 3 (Value.int .i64 ((n4 : Int) - 1)))) (by show r ≠ _; omega) Hfar0.out) (Offp.of_only ((Only.refl w.heap.size _).set 4 (Value.slice a (List.length s5) cp))) (by show r ≠ _; omega) Hfar0.out)
  have HLz := hidP (owns_only' (owns_only' (owns_only' (owns_only' (owns_only' (HL1) ((Only.refl w.heap.size _).set 0 (Value.int .i64 (n1 : Int))) (by omega)) ((Only.refl w.heap.size _).set 1 (Value.int .i64 (n2 : Int))) (by omega)) ((Only.refl w.heap.size _).set 2 (Value.int .i64 (n3 : Int))) (by omega)) ((Only.refl w.heap.size _).set 3 (Value.int .i64 ((n4 : Int) - 1))) (by omega)) ((Only.refl w.heap.size _).set 4 (Value.slice a (List.length s5) cp)) (by omega))
  have hN : Hid (getMr l i = some (⟨(n1 : Int), (n2 : Int), (n3 : Int), (n4 : Int) - 1, s5⟩, c5)) := hidP (by simp [getMr, hx1, hx2, hx3, hx4, hx5])
  clear HO5 HC5 Hpx5 Hpr5 HL1
  go_wp2
  refine bodyPost_ret (v := .agg #[Value.int .i64 (n1 : Int), Value.int .i64 (n2 : Int), Value.int .i64 (n3 : Int), Value.int .i64 ((n4 : Int) - 1), Value.slice a (List.length s5) cp]) (by simp [results, Tryz.results50, go_sem, r0, r1, r2, r3, r4]) rfl ?_
  rw [hN.out]
  exact ⟨HOz.out, HCz.out, _, rfl, _, rfl, isList.mono ⟨a, cp, rfl, HLz.out⟩ (Nat.le_add_right _ 2)⟩
end Go.Proofs.YtjjbbkmedpfenaaGreat.Gen

/-
  Lists of records that have lists of their own, read one behind the other: each in blocks of its own. Condition: at most 1048576 bytes.
-/
namespace Go.Proofs.YtjjbbkmedpfenaaGreat.Gen
open Go.ChangeShapes Go.WideShapes Go.ChangeAt Go.RowKit Go.Joins Go.Deep Base
open Items (It)
set_option linter.unusedVariables false
set_option linter.unusedSimpArgs false

theorem owns_sub {α : Type} [Cel α] {B : Nat} {W : World} {t : TypeId} {a : Option Addr} {c : Nat} {xs : List α} (h : W.ownsRow B t (Cel.k α) (.slice a xs.length c) xs.length (flat xs)) : Sub W a xs (fun b => B ≤ b ∧ b < W.heap.size) := by
  obtain ⟨a', c', e, _, hs⟩ := fresh_owns h
  cases e
  exact hs.imp id fun ⟨b, o, e, hB, hb, hi, ht⟩ => ⟨b, o, e, ⟨hB, hb⟩, hb, hi, ht⟩

/-- What is under way: the reader, the list so far, and what lies with each. -/
structure RO {α : Type} [Cel α] (P : World → α → (Nat → Prop) → Prop) (t : TypeId) (w W : World) (r : Nat) (A : Option Addr) (cap : Nat) (l : List UInt8) (c : Nat) (v : Value) (xs : List α) : Prop where
  rl : RL t w W r A cap l c v xs
  fps : ∃ fp : Nat → Nat → Prop, (∀ (i : Nat) (h : i < xs.length), P W xs[i] (fp i)) ∧ (∀ i j, i ≠ j → ∀ x, fp i x → ¬ fp j x) ∧ ∀ i x, fp i x → i < xs.length ∧ w.heap.size ≤ x ∧ x < W.heap.size ∧ v.ownBlock ≠ some x
theorem RO.start {α : Type} [Cel α] {P : World → α → (Nat → Prop) → Prop} {t : TypeId} {w W : World} {r : Nat} {A : Option Addr} {cap : Nat} {l : List UInt8} {c : Nat} {v : Value} (h : RL (α := α) t w W r A cap l c v []) : RO (α := α) P t w W r A cap l c v [] :=
  ⟨h, fun _ _ => False, fun i h => by simp at h, fun _ _ _ _ h => h.elim, fun _ _ h => h.elim⟩
theorem RO.app {α : Type} [Cel α] {P : World → α → (Nat → Prop) → Prop} (hP : Firm P) {pg : Program} {ts t : TypeId} {z : Value} {bytes : Nat} (hu : pg.underlying ts = some (.slice t)) (hinfo : (pg.info? t).map (fun i => (i.zero, i.size, i.bytes)) = some (some z, Cel.k α, bytes)) (hz : z.cells.size = Cel.k α) (hk : 0 < Cel.k α) (hby : bytes ≤ 1000)
    {w W W1 : World} {r : Nat} {A : Option Addr} {cap : Nat} {l : List UInt8} {c d : Nat} {a : Option Addr} {cp : Nat} {xs : List α} (h : RO P t w W r A cap l c (.slice a xs.length cp) xs) (o : Only r W W1) (h1 : Rd W1 r A cap l (d : Int)) (x : α) {S : Nat → Prop} (hy : P W1 x S) (hS : ∀ y, S y → W.heap.size ≤ y ∧ y < W1.heap.size) (cs : Array Value) (hcs : cs.toList = Cel.cs x) (hx : xs.length ≤ 2000000) :
    ∃ a2 c2 W2, (Builtin.append_ #[ts, ts] ts #[.slice a xs.length cp, .slice (some ⟨W1.heap.size, 0, none⟩) 1 1]).run pg (W1.alloc (.cells cs t)) = .ok (.slice a2 (xs.length + 1) c2) W2 ∧ RO P t w W2 r A cap l d (.slice a2 (xs.length + 1) c2) (xs ++ [x]) := by
  obtain ⟨h, fp, f1, f2, f3⟩ := h
  have hlr := h.lr
  have hw1 : w.heap.size ≤ W1.heap.size := Nat.le_trans h.only.size o.size
  have own0 := h.own
  have own1 := owns_alloc (owns_only' h.own o hlr) (.cells cs t)
  have hX : At (W1.alloc (.cells cs t)) (some ⟨W1.heap.size, 0, none⟩) [x] := by
    refine .inr ⟨_, 0, rfl, by simp, fun j u hu => ?_⟩
    rw [flat_one, ← hcs] at hu
    rw [Nat.zero_add]
    exact (Blk.new W1 t cs).cell (by simpa using hu)
  obtain ⟨v', W2, hr, hown, hgrow, hob⟩ := append_els (P := pg) hu hinfo hz hk hby w.heap.size (.slice a xs.length cp) xs [x] (some ⟨W1.heap.size, 0, none⟩) 1 _ (by simp; omega) own1 hX (by simp; omega)
  simp only [List.length_cons, List.length_nil, Nat.zero_add] at hown hr
  obtain ⟨a2, c2, rfl, _⟩ := owns_form hown
  have ko := offp_grown hgrow
  have hs2 : W1.heap.size + 1 ≤ W2.heap.size := by have := ko.size; simpa using this
  have os := o.size
  have hS' : ∀ y, (Value.slice a xs.length cp).ownBlock = some y → w.heap.size ≤ y ∧ y < W.heap.size := fun y hy => own0.lt y hy
  have kb : Offp (fun _ => False) W1 (W1.alloc (.cells cs t)) := Offp.of_below (alloc0 (Below.refl _ _) _)
  refine ⟨a2, c2, W2, hr, ⟨?_, ?_, owns_n (by simp) hown, h.lr, h.la⟩, fun i => if i = xs.length then S else fp i, ?_, ?_, ?_⟩
  · exact (h1.below (alloc0 (Below.refl _ _) _)).offp ko (fun e => by have := (hS' _ e).1; omega) (h.la.imp id fun f c o e e' => by have := f c o e; have := (hS' _ e').1; omega)
  · exact only_offp ((only_trans h.only o).below (alloc0 (Below.refl _ _) _)) ko (fun y e => (hS' y e).1)
  · intro i hi
    by_cases e : i = xs.length
    · subst e
      simp only [if_true]
      rw [List.getElem_append_right (Nat.le_refl _)]
      simp only [Nat.sub_self, List.getElem_cons_zero]
      exact hP _ _ _ _ _ (hP _ _ _ _ _ hy kb (fun _ _ e => e)) ko (fun y hy e => by have := (hS y hy).1; have := (hS' y e).2; omega)
    · have hi' : i < xs.length := by simp at hi; omega
      simp only [if_neg e]
      rw [List.getElem_append_left hi']
      exact hP _ _ _ _ _ (hP _ _ _ _ _ (hP _ _ _ _ _ (f1 i hi') (Offp.of_only o) (fun y hy e => by have := (f3 i y hy).2.1; omega)) kb (fun _ _ e => e)) ko (fun y hy e => (f3 i y hy).2.2.2 e)
  · intro i j hij y hy' hy2
    by_cases e1 : i = xs.length
    · by_cases e2 : j = xs.length
      · omega
      · simp only [if_pos e1] at hy'
        simp only [if_neg e2] at hy2
        have := (hS y hy').1
        have := (f3 j y hy2).2.2.1
        omega
    · by_cases e2 : j = xs.length
      · simp only [if_neg e1] at hy'
        simp only [if_pos e2] at hy2
        have := (hS y hy2).1
        have := (f3 i y hy').2.2.1
        omega
      · simp only [if_neg e1] at hy'
        simp only [if_neg e2] at hy2
        exact f2 i j hij y hy' hy2
  · intro i y hy'
    have hob' : ∀ y, (Value.slice a xs.length cp).ownBlock ≠ some y → y < W1.heap.size → (Value.slice a2 (xs.length + 1) c2).ownBlock ≠ some y := by
      intro y hn hlt e
      rcases hob with h' | h'
      · exact hn (h' ▸ e)
      · rw [h'] at e
        simp only [World.size_alloc, Option.some.injEq] at e
        omega
    by_cases e1 : i = xs.length
    · simp only [if_pos e1] at hy'
      have hh := hS y hy'
      have hws := h.only.size
      exact ⟨by simp; omega, by omega, by omega, hob' y (fun e => by have := (hS' y e).2; omega) hh.2⟩
    · simp only [if_neg e1] at hy'
      have hh := f3 i y hy'
      exact ⟨by simp; omega, hh.2.1, by omega, hob' y hh.2.2.2 (by omega)⟩
theorem RO.own {α : Type} [Cel α] {P : World → α → (Nat → Prop) → Prop} {t : TypeId} {w W : World} {r : Nat} {A : Option Addr} {cap : Nat} {l : List UInt8} {c : Nat} {a : Option Addr} {cp : Nat} {xs : List α} (h : RO P t w W r A cap l c (.slice a xs.length cp) xs) : Own P W a xs (fun b => w.heap.size ≤ b ∧ b < W.heap.size) := by
  obtain ⟨h, fp, f1, f2, f3⟩ := h
  rcases owns_sub h.own with e | ⟨b, o, e, hb, hlt, hi, ht⟩
  · exact .inl e
  · refine .inr ⟨b, o, fp, e, hb, fun i x hx => ⟨(f3 i x hx).2.1, (f3 i x hx).2.2.1⟩, ⟨hlt, hi, ht, f1, f2, fun i hx => (f3 i b hx).2.2.2 ?_⟩⟩
    rw [e]
    rfl

def isRws (B : Nat) (xs : List PR) (v : Value) (W : World) : Prop := ∃ (rs : List RC) (a : Option Addr) (cp : Nat), v = .slice a rs.length cp ∧ rs.map RC.p = xs ∧ rs.length ≤ cp ∧ Own rowP W a rs (fun b => B ≤ b ∧ b < W.heap.size)
theorem isRws.mono {B B' : Nat} {xs : List PR} {v : Value} {W : World} (h : isRws B xs v W) (hB : B' ≤ B) : isRws B' xs v W := by
  obtain ⟨rs, a, cp, e, hm, hc, ho⟩ := h
  exact ⟨rs, a, cp, e, hm, hc, ho.mono fun b hb => ⟨Nat.le_trans hB hb.1, hb.2⟩⟩
set_option maxRecDepth 100000 in
set_option maxHeartbeats 2000000 in
theorem readManyRw_any (r : Nat) (A : Option Addr) (cap : Nat) (l : List UInt8) (hl : l.length ≤ 1048576) (hcap : l.length ≤ cap) (hcm : cap ≤ 9223372036854775807) (n : Nat) (hn : n ≤ 2147483647) (c0 : Nat) (w : World) (h : Rd w r A cap l (c0 : Int)) :
    Calls Tryz.prog 85 #[.pointer (some ⟨r, 0, none⟩), .int .i64 (n : Int), .func (.func 48) #[] #[]] w fun e w' => Reads (isRws w.heap.size) r A cap l w e w' (getMany (getRw l) n c0) := by
  obtain ⟨hr, hfar⟩ := h.far'
  have K0 : Hid (RO (α := RC) rowP 67 w w r A cap l c0 (.slice none 0 0) []) := RO.start ⟨h, Only.refl _ _, World.ownsRow_nil _ _ _ _, hr, hfar⟩
  clear h hr hfar
  go_enter Tryz.func85, Tryz.ntmps85
  go_wp2
  go_loopw [7, 9] (fun v i W => ∃ (k c cp : Nat) (a : Option Addr) (xs : List RC), i = .int .i64 (k : Int) ∧ v = .slice a (List.length xs) cp ∧ k ≤ n ∧ Hid (xs.length = k ∧ (k = 0 ∨ k ≤ c ∧ c ≤ l.length)) ∧ Hid (RO rowP 67 w W r A cap l c (.slice a xs.length cp) xs) ∧ Hid (getMany (getRw l) n c0 = addTo (xs.map RC.p) (getMany (getRw l) (n - k) c))) (fun _ i _ => n - (intOf i).toNat)
  case atStart => exact ⟨0, c0, 0, none, [], rfl, rfl, by omega, ⟨rfl, .inl rfl⟩, K0, by show _ = _; simp [addTo]⟩
  case round =>
    clear K0
    obtain ⟨k, c, cp, a, xs, rfl, rfl, hk, hkc, KK, hm⟩ := hrel
    by_cases hlt : k < n
    · have hlt' : (k : Int) < (n : Int) := by omega
      obtain ⟨m, hm1⟩ : ∃ m, n - k = m + 1 := ⟨n - k - 1, by omega⟩
      have hm2 : Hid (n - (k + 1) = m) := by show _ = _; omega
      rw [hm1] at hm
      clear hm1
      go_wp2_with fail
      refine (readRw_any r A cap l (c : Int) hl hcap hcm _ KK.out.rl.rd).mono ?_
      intro e w1 h1
      cases hx : getRw l (c : Int) with
      | none =>
        rw [hx] at h1
        obtain ⟨o1, t, v, rfl⟩ := h1
        refine ⟨rfl, ?_⟩
        rw [hm.out, many_none (xs.map RC.p) hx]
        exact ⟨only_trans KK.out.rl.only o1, t, v, rfl⟩
      | some p =>
        obtain ⟨x, d⟩ := p
        rw [hx] at h1
        obtain ⟨o1, r1, v, rfl, u, rfl, a', cp', rfl, hown'⟩ := h1
        have hgd := getRw_le hx
        have hxl : xs.length ≤ 2000000 := by have := hkc.out; omega
        obtain ⟨a2, c2, W2, hr, K2⟩ := RO.app rowP_firm (pg := Tryz.prog) (z := .agg #[.int .i64 0, .int .i64 0, .slice none 0 0]) Tryz.underlying25 infoRC rfl (by decide) (by decide) KK.out o1 r1 (⟨x.start, x.next, a', cp', x.its⟩ : RC) (owns_sub hown') (fun y hy => hy) #[.int .i64 x.start, .int .i64 x.next, .slice a' x.its.length cp'] rfl hxl
        have hm' := hidP (hm.out.trans (many_some (xs.map RC.p) hx))
        have hkc' : Hid ((xs ++ [(⟨x.start, x.next, a', cp', x.its⟩ : RC)]).length = k + 1 ∧ (k + 1 = 0 ∨ k + 1 ≤ d ∧ d ≤ l.length)) := by
          show _ ∧ _
          have := hkc.out
          exact ⟨by simp; omega, .inr (by omega)⟩
        have K2' : Hid (RO rowP 67 w W2 r A cap l d (.slice a2 (xs ++ [(⟨x.start, x.next, a', cp', x.its⟩ : RC)]).length c2) (xs ++ [⟨x.start, x.next, a', cp', x.its⟩])) := by show RO _ _ _ _ _ _ _ _ _ _ _; rw [List.length_append]; exact K2
        clear KK K2 hm hkc o1 r1 hx hgd hxl hown'
        go_wp2_with (at_builtin; refine wpList_append_is rfl _ _ _ rfl _ _ _ rfl rfl hr ?_)
        exact ⟨⟨k + 1, d, c2, a2, xs ++ [⟨x.start, x.next, a', cp', x.its⟩], by go_num, by rw [List.length_append]; rfl, by omega, hkc', K2', by show _ = _; rw [hm2.out, List.map_append]; exact hm'.out⟩, by simp [intOf]; omega⟩
    · obtain rfl : k = n := by omega
      go_wp2
      go_ret
      rw [hm.out, Nat.sub_self, many_end]
      have hle := (owns_form KK.out.rl.own)
      obtain ⟨_, _, e, hle⟩ := hle
      cases e
      exact ⟨KK.out.rl.only, KK.out.rl.rd, _, rfl, xs, a, cp, rfl, rfl, hle, KK.out.own⟩
set_option maxRecDepth 100000 in
set_option maxHeartbeats 2000000 in
theorem readListRw_any (r : Nat) (A : Option Addr) (cap : Nat) (l : List UInt8) (i : Int) (hl : l.length ≤ 1048576) (hcap : l.length ≤ cap) (hcm : cap ≤ 9223372036854775807) (w : World) (h : Rd w r A cap l i) :
    Calls Tryz.prog 47 #[.pointer (some ⟨r, 0, none⟩), .func (.func 48) #[] #[]] w fun e w' => Reads (isRws w.heap.size) r A cap l w e w' (getList l (getRw l) i) := by
  have HC := hidP h
  clear h
  go_enter Tryz.func47, Tryz.ntmps47
  go_wp2_with fail
  refine (readNum_any r A cap l i hl _ HC.out).mono ?_
  intro e w1 h1
  cases hx1 : getN l i with
  | none =>
    have hN : getList l (getRw l) i = none := by simp [getList, hx1]
    rw [hx1] at h1
    obtain ⟨o1, t, v, rfl⟩ := h1
    refine ⟨rfl, ?_⟩
    rw [hN]
    exact ⟨o1, t, v, rfl⟩
  | some x =>
  obtain ⟨n1, c1⟩ := x
  rw [hx1] at h1
  obtain ⟨o1, h1, v, rfl, rfl⟩ := h1
  have hle1 := getN_le hx1
  have hN : Hid (getList l (getRw l) i = getMany (getRw l) n1 c1) := hidP (by simp [getList, hx1])
  have HC1 := hidP h1
  have HO1 := hidP o1
  clear h1 o1 HC hx1
  go_wp2_with fail
  refine (readManyRw_any r A cap l hl hcap hcm n1 hle1.1 c1 _ HC1.out).mono ?_
  intro e w2 h2
  cases hx2 : getMany (getRw l) n1 c1 with
  | none =>
    rw [hx2] at h2
    obtain ⟨o2, t, v, rfl⟩ := h2
    refine ⟨rfl, ?_⟩
    rw [hN.out, hx2]
    exact ⟨only_trans HO1.out o2, t, v, rfl⟩
  | some x =>
  obtain ⟨xs, c2⟩ := x
  rw [hx2] at h2
  obtain ⟨o2, h2, v, rfl, hv⟩ := h2
  have HC2 := hidP h2
  have HO2 := hidP (only_trans HO1.out o2)
  have hv' := hidP (hv.mono HO1.out.size)
  clear o2 h2 hv
  go_wp2
  refine bodyPost_ret (v := v) (by simp [results, Tryz.results47, go_sem]) rfl ?_
  rw [hN.out, hx2]
  exact ⟨HO2.out, HC2.out, _, rfl, hv'.out⟩

def isMrs (B : Nat) (xs : List PM) (v : Value) (W : World) : Prop := ∃ (rs : List MC) (a : Option Addr) (cp : Nat), v = .slice a rs.length cp ∧ rs.map MC.p = xs ∧ rs.length ≤ cp ∧ Own makP W a rs (fun b => B ≤ b ∧ b < W.heap.size)
theorem isMrs.mono {B B' : Nat} {xs : List PM} {v : Value} {W : World} (h : isMrs B xs v W) (hB : B' ≤ B) : isMrs B' xs v W := by
  obtain ⟨rs, a, cp, e, hm, hc, ho⟩ := h
  exact ⟨rs, a, cp, e, hm, hc, ho.mono fun b hb => ⟨Nat.le_trans hB hb.1, hb.2⟩⟩
set_option maxRecDepth 100000 in
set_option maxHeartbeats 2000000 in
theorem readManyMr_any (r : Nat) (A : Option Addr) (cap : Nat) (l : List UInt8) (hl : l.length ≤ 1048576) (hcap : l.length ≤ cap) (hcm : cap ≤ 9223372036854775807) (n : Nat) (hn : n ≤ 2147483647) (c0 : Nat) (w : World) (h : Rd w r A cap l (c0 : Int)) :
    Calls Tryz.prog 88 #[.pointer (some ⟨r, 0, none⟩), .int .i64 (n : Int), .func (.func 50) #[] #[]] w fun e w' => Reads (isMrs w.heap.size) r A cap l w e w' (getMany (getMr l) n c0) := by
  obtain ⟨hr, hfar⟩ := h.far'
  have K0 : Hid (RO (α := MC) makP 71 w w r A cap l c0 (.slice none 0 0) []) := RO.start ⟨h, Only.refl _ _, World.ownsRow_nil _ _ _ _, hr, hfar⟩
  clear h hr hfar
  go_enter Tryz.func88, Tryz.ntmps88
  go_wp2
  go_loopw [7, 9] (fun v i W => ∃ (k c cp : Nat) (a : Option Addr) (xs : List MC), i = .int .i64 (k : Int) ∧ v = .slice a (List.length xs) cp ∧ k ≤ n ∧ Hid (xs.length = k ∧ (k = 0 ∨ k ≤ c ∧ c ≤ l.length)) ∧ Hid (RO makP 71 w W r A cap l c (.slice a xs.length cp) xs) ∧ Hid (getMany (getMr l) n c0 = addTo (xs.map MC.p) (getMany (getMr l) (n - k) c))) (fun _ i _ => n - (intOf i).toNat)
  case atStart => exact ⟨0, c0, 0, none, [], rfl, rfl, by omega, ⟨rfl, .inl rfl⟩, K0, by show _ = _; simp [addTo]⟩
  case round =>
    clear K0
    obtain ⟨k, c, cp, a, xs, rfl, rfl, hk, hkc, KK, hm⟩ := hrel
    by_cases hlt : k < n
    · have hlt' : (k : Int) < (n : Int) := by omega
      obtain ⟨m, hm1⟩ : ∃ m, n - k = m + 1 := ⟨n - k - 1, by omega⟩
      have hm2 : Hid (n - (k + 1) = m) := by show _ = _; omega
      rw [hm1] at hm
      clear hm1
      go_wp2_with fail
      refine (readMr_any r A cap l (c : Int) hl hcap hcm _ KK.out.rl.rd).mono ?_
      intro e w1 h1
      cases hx : getMr l (c : Int) with
      | none =>
        rw [hx] at h1
        obtain ⟨o1, t, v, rfl⟩ := h1
        refine ⟨rfl, ?_⟩
        rw [hm.out, many_none (xs.map MC.p) hx]
        exact ⟨only_trans KK.out.rl.only o1, t, v, rfl⟩
      | some p =>
        obtain ⟨x, d⟩ := p
        rw [hx] at h1
        obtain ⟨o1, r1, v, rfl, u, rfl, a', cp', rfl, hown'⟩ := h1
        have hgd := getMr_le hx
        have hxl : xs.length ≤ 2000000 := by have := hkc.out; omega
        obtain ⟨a2, c2, W2, hr, K2⟩ := RO.app makP_firm (pg := Tryz.prog) (z := .agg #[.int .i64 0, .int .i64 0, .int .i64 0, .int .i64 0, .slice none 0 0]) Tryz.underlying26 infoMC rfl (by decide) (by decide) KK.out o1 r1 (⟨x.row, x.who, x.epoch, x.last, a', cp', x.ms⟩ : MC) (owns_sub hown') (fun y hy => hy) #[.int .i64 x.row, .int .i64 x.who, .int .i64 x.epoch, .int .i64 x.last, .slice a' x.ms.length cp'] rfl hxl
        have hm' := hidP (hm.out.trans (many_some (xs.map MC.p) hx))
        have hkc' : Hid ((xs ++ [(⟨x.row, x.who, x.epoch, x.last, a', cp', x.ms⟩ : MC)]).length = k + 1 ∧ (k + 1 = 0 ∨ k + 1 ≤ d ∧ d ≤ l.length)) := by
          show _ ∧ _
          have := hkc.out
          exact ⟨by simp; omega, .inr (by omega)⟩
        have K2' : Hid (RO makP 71 w W2 r A cap l d (.slice a2 (xs ++ [(⟨x.row, x.who, x.epoch, x.last, a', cp', x.ms⟩ : MC)]).length c2) (xs ++ [⟨x.row, x.who, x.epoch, x.last, a', cp', x.ms⟩])) := by show RO _ _ _ _ _ _ _ _ _ _ _; rw [List.length_append]; exact K2
        clear KK K2 hm hkc o1 r1 hx hgd hxl hown'
        go_wp2_with (at_builtin; refine wpList_append_is rfl _ _ _ rfl _ _ _ rfl rfl hr ?_)
        exact ⟨⟨k + 1, d, c2, a2, xs ++ [⟨x.row, x.who, x.epoch, x.last, a', cp', x.ms⟩], by go_num, by rw [List.length_append]; rfl, by omega, hkc', K2', by show _ = _; rw [hm2.out, List.map_append]; exact hm'.out⟩, by simp [intOf]; omega⟩
    · obtain rfl : k = n := by omega
      go_wp2
      go_ret
      rw [hm.out, Nat.sub_self, many_end]
      have hle := (owns_form KK.out.rl.own)
      obtain ⟨_, _, e, hle⟩ := hle
      cases e
      exact ⟨KK.out.rl.only, KK.out.rl.rd, _, rfl, xs, a, cp, rfl, rfl, hle, KK.out.own⟩
set_option maxRecDepth 100000 in
set_option maxHeartbeats 2000000 in
theorem readListMr_any (r : Nat) (A : Option Addr) (cap : Nat) (l : List UInt8) (i : Int) (hl : l.length ≤ 1048576) (hcap : l.length ≤ cap) (hcm : cap ≤ 9223372036854775807) (w : World) (h : Rd w r A cap l i) :
    Calls Tryz.prog 49 #[.pointer (some ⟨r, 0, none⟩), .func (.func 50) #[] #[]] w fun e w' => Reads (isMrs w.heap.size) r A cap l w e w' (getList l (getMr l) i) := by
  have HC := hidP h
  clear h
  go_enter Tryz.func49, Tryz.ntmps49
  go_wp2_with fail
  refine (readNum_any r A cap l i hl _ HC.out).mono ?_
  intro e w1 h1
  cases hx1 : getN l i with
  | none =>
    have hN : getList l (getMr l) i = none := by simp [getList, hx1]
    rw [hx1] at h1
    obtain ⟨o1, t, v, rfl⟩ := h1
    refine ⟨rfl, ?_⟩
    rw [hN]
    exact ⟨o1, t, v, rfl⟩
  | some x =>
  obtain ⟨n1, c1⟩ := x
  rw [hx1] at h1
  obtain ⟨o1, h1, v, rfl, rfl⟩ := h1
  have hle1 := getN_le hx1
  have hN : Hid (getList l (getMr l) i = getMany (getMr l) n1 c1) := hidP (by simp [getList, hx1])
  have HC1 := hidP h1
  have HO1 := hidP o1
  clear h1 o1 HC hx1
  go_wp2_with fail
  refine (readManyMr_any r A cap l hl hcap hcm n1 hle1.1 c1 _ HC1.out).mono ?_
  intro e w2 h2
  cases hx2 : getMany (getMr l) n1 c1 with
  | none =>
    rw [hx2] at h2
    obtain ⟨o2, t, v, rfl⟩ := h2
    refine ⟨rfl, ?_⟩
    rw [hN.out, hx2]
    exact ⟨only_trans HO1.out o2, t, v, rfl⟩
  | some x =>
  obtain ⟨xs, c2⟩ := x
  rw [hx2] at h2
  obtain ⟨o2, h2, v, rfl, hv⟩ := h2
  have HC2 := hidP h2
  have HO2 := hidP (only_trans HO1.out o2)
  have hv' := hidP (hv.mono HO1.out.size)
  clear o2 h2 hv
  go_wp2
  refine bodyPost_ret (v := v) (by simp [results, Tryz.results49, go_sem]) rfl ?_
  rw [hN.out, hx2]
  exact ⟨HO2.out, HC2.out, _, rfl, hv'.out⟩
end Go.Proofs.YtjjbbkmedpfenaaGreat.Gen

/-
  Group: what the laws' to, sz, eq, mark and held functions of it do; the argument opened. No condition but that its lists have at most 1048576 numbers.
-/
namespace Go.Proofs.YtjjbbkmedpfenaaGreat.Gen
open Go.ChangeShapes Go.WideShapes Go.ChangeAt Go.RowKit Go.Joins Go.Deep Base
set_option linter.unusedVariables false

/-- Three lists of numbers in three blocks of their own, none below n. -/
structure Three (n : Nat) (w : World) (x y z : Nat) (m b o : List Int) : Prop where
  nx : n ≤ x
  xy : x < y
  yz : y < z
  zs : z < w.heap.size
  im : In w x 0 m
  ib : In w y 0 b
  io : In w z 0 o
  tm : w.there x 0 (m.length * 1)
  tb : w.there y 0 (b.length * 1)
  to : w.there z 0 (o.length * 1)
theorem Three.below {n : Nat} {w w' : World} {x y z : Nat} {m b o : List Int} (h : Three n w x y z m b o) (g : Below w.heap.size w w') : Three n w' x y z m b o := by
  have hx : x < w.heap.size := Nat.lt_trans h.xy (Nat.lt_trans h.yz h.zs)
  have hy : y < w.heap.size := Nat.lt_trans h.yz h.zs
  exact ⟨h.nx, h.xy, h.yz, Nat.lt_of_lt_of_le h.zs g.size, h.im.below hx g, h.ib.below hy g, h.io.below h.zs g, there_below h.tm hx g, there_below h.tb hy g, there_below h.to h.zs g⟩
theorem Three.am {n : Nat} {w : World} {x y z : Nat} {m b o : List Int} (h : Three n w x y z m b o) : At w (some ⟨x, 0, none⟩) m := .inr ⟨x, 0, rfl, Nat.lt_trans h.xy (Nat.lt_trans h.yz h.zs), h.im⟩
theorem Three.ab {n : Nat} {w : World} {x y z : Nat} {m b o : List Int} (h : Three n w x y z m b o) : At w (some ⟨y, 0, none⟩) b := .inr ⟨y, 0, rfl, Nat.lt_trans h.yz h.zs, h.ib⟩
theorem Three.ao {n : Nat} {w : World} {x y z : Nat} {m b o : List Int} (h : Three n w x y z m b o) : At w (some ⟨z, 0, none⟩) o := .inr ⟨z, 0, rfl, h.zs, h.io⟩

set_option maxRecDepth 100000 in
theorem eqGroup_same (gen : Int) (A B C A' B' C' : Option Addr) (ca cb cc ca' cb' cc' : Nat) (m b o : List Int) (hm : m.length ≤ 9223372036854775807) (hb : b.length ≤ 9223372036854775807) (ho : o.length ≤ 9223372036854775807) (w : World)
    (hA : At w A m) (hB : At w B b) (hC : At w C o) (hA' : At w A' m) (hB' : At w B' b) (hC' : At w C' o) :
    Calls Tryz.prog 72 #[.agg #[.int .i64 gen, .slice A m.length ca, .slice B b.length cb, .slice C o.length cc], .agg #[.int .i64 gen, .slice A' m.length ca', .slice B' b.length cb', .slice C' o.length cc']] w fun e w' => e = .returned (.bool true) ∧ Below w.heap.size w w' := by
  have HA := hidP hA
  have HB := hidP hB
  have HC := hidP hC
  have HA' := hidP hA'
  have HB' := hidP hB'
  have HC' := hidP hC'
  clear hA hB hC hA' hB' hC'
  go_enter Tryz.func72, Tryz.ntmps72
  go_wp2_with fail
  have B0 : Below w.heap.size w ((w.alloc (.cells #[.int .i64 gen, .slice A m.length ca, .slice B b.length cb, .slice C o.length cc] 74)).alloc (.cells #[.int .i64 gen, .slice A' m.length ca', .slice B' b.length cb', .slice C' o.length cc'] 74)) := by repeat (first | exact Below.refl _ _ | assumption | refine via0 (by assumption) ?_ | refine Below.drew ?_ | refine alloc0 ?_ _)
  have p0 : Blk ((w.alloc (.cells #[.int .i64 gen, .slice A m.length ca, .slice B b.length cb, .slice C o.length cc] 74)).alloc (.cells #[.int .i64 gen, .slice A' m.length ca', .slice B' b.length cb', .slice C' o.length cc'] 74)) w.heap.size 74 #[.int .i64 gen, .slice A m.length ca, .slice B b.length cb, .slice C o.length cc] := (Blk.new w 74 #[.int .i64 gen, .slice A m.length ca, .slice B b.length cb, .slice C o.length cc]).alloc _
  have p1 : Blk ((w.alloc (.cells #[.int .i64 gen, .slice A m.length ca, .slice B b.length cb, .slice C o.length cc] 74)).alloc (.cells #[.int .i64 gen, .slice A' m.length ca', .slice B' b.length cb', .slice C' o.length cc'] 74)) (w.heap.size + 1) 74 #[.int .i64 gen, .slice A' m.length ca', .slice B' b.length cb', .slice C' o.length cc'] := by simpa using Blk.new (w.alloc (.cells #[.int .i64 gen, .slice A m.length ca, .slice B b.length cb, .slice C o.length cc] 74)) 74 #[.int .i64 gen, .slice A' m.length ca', .slice B' b.length cb', .slice C' o.length cc']
  refine (eqInt_same A A' ca ca' m hm _ (HA.out.below B0) (HA'.out.below B0)).mono ?_
  rintro e w1 ⟨rfl, g1⟩
  have B1 := via0 g1 B0
  have r0 := p0.below g1 p0.lt
  have r1 := p1.below g1 p1.lt
  clear p0 p1 g1 B0
  obtain ⟨u0, u1, u2, u3⟩ := r0.row4
  obtain ⟨n0, n1, n2, n3⟩ := r1.row4
  go_wp2_with fail
  refine (eqInt_same B B' cb cb' b hb _ (HB.out.below B1) (HB'.out.below B1)).mono ?_
  rintro e w2 ⟨rfl, g2⟩
  have B2 := via0 g2 B1
  have s0 := r0.below g2 r0.lt
  have s1 := r1.below g2 r1.lt
  clear r0 r1 g2 B1 u0 u1 u2 u3 n0 n1 n2 n3
  obtain ⟨u0, u1, u2, u3⟩ := s0.row4
  obtain ⟨n0, n1, n2, n3⟩ := s1.row4
  go_wp2_with fail
  refine (eqInt_same C C' cc cc' o ho _ (HC.out.below B2) (HC'.out.below B2)).mono ?_
  rintro e w3 ⟨rfl, g3⟩
  have B3 := via0 g3 B2
  go_wp2
  go_ret
  exact ⟨rfl, B3⟩

end Go.Proofs.YtjjbbkmedpfenaaGreat.Gen

/-
  Lists of groups, each with its three lists: how they lie, what the laws' to, sz, eq, mark and held functions of them do; the argument opened. No condition but that there are at most 1048576.
-/
namespace Go.Proofs.YtjjbbkmedpfenaaGreat.Gen
open Go.ChangeShapes Go.WideShapes Go.ChangeAt Go.RowKit Go.Joins Go.Deep Base
set_option linter.unusedVariables false
set_option linter.unusedSimpArgs false

/-- A group as it lies in a list: its lists lie elsewhere. -/
structure GC where
  gen : Int
  a1 : Option Addr
  c1 : Nat
  m : List Int
  a2 : Option Addr
  c2 : Nat
  b : List Int
  a3 : Option Addr
  c3 : Nat
  o : List Int
instance : Inhabited GC := ⟨⟨0, none, 0, [], none, 0, [], none, 0, []⟩⟩
instance : Cel GC where
  k := 4
  cs x := [.int .i64 x.gen, .slice x.a1 x.m.length x.c1, .slice x.a2 x.b.length x.c2, .slice x.a3 x.o.length x.c3]
  len _ := rfl
  one x u hu := by simp at hu; rcases hu with rfl | rfl | rfl | rfl <;> rfl
/-- A group's content. -/
structure PG where
  gen : Int
  m : List Int
  b : List Int
  o : List Int
def GC.p (x : GC) : PG := ⟨x.gen, x.m, x.b, x.o⟩
def GC.right (x : GC) : Prop := I64 x.gen ∧ (x.m.length ≤ 9223372036854775807 ∧ x.b.length ≤ 9223372036854775807 ∧ x.o.length ≤ 9223372036854775807) ∧ (∀ y ∈ x.m, I64 y) ∧ (∀ y ∈ x.b, I64 y) ∧ ∀ y ∈ x.o, I64 y
def atG (w : World) (x : GC) : Prop := At w x.a1 x.m ∧ At w x.a2 x.b ∧ At w x.a3 x.o
theorem atG.below {w w' : World} {x : GC} (h : atG w x) (hw : Below w.heap.size w w') : atG w' x := ⟨h.1.below hw, h.2.1.below hw, h.2.2.below hw⟩
def EachG (w : World) (l : List GC) : Prop := ∀ x ∈ l, atG w x
theorem EachG.below {w w' : World} {l : List GC} (h : EachG w l) (hw : Below w.heap.size w w') : EachG w' l := fun x hx => (h x hx).below hw
/-- A group's lists in blocks of S, no two in one. -/
def grpP (w : World) (x : GC) (S : Nat → Prop) : Prop :=
  ∃ S1 S2 S3 : Nat → Prop, (∀ y, S1 y → S y) ∧ (∀ y, S2 y → S y) ∧ (∀ y, S3 y → S y) ∧ (∀ y, S1 y → ¬ S2 y) ∧ (∀ y, S1 y → ¬ S3 y) ∧ (∀ y, S2 y → ¬ S3 y) ∧ Sub w x.a1 x.m S1 ∧ Sub w x.a2 x.b S2 ∧ Sub w x.a3 x.o S3
theorem grpP_firm : Firm grpP := fun w w' x S T ⟨S1, S2, S3, i1, i2, i3, d1, d2, d3, s1, s2, s3⟩ k hd =>
  ⟨S1, S2, S3, i1, i2, i3, d1, d2, d3, s1.offp k (fun y hy => hd y (i1 y hy)), s2.offp k (fun y hy => hd y (i2 y hy)), s3.offp k (fun y hy => hd y (i3 y hy))⟩
theorem grpP_at {w : World} {x : GC} {S : Nat → Prop} (h : grpP w x S) : atG w x := by
  obtain ⟨S1, S2, S3, i1, i2, i3, d1, d2, d3, s1, s2, s3⟩ := h
  exact ⟨s1.at, s2.at, s3.at⟩
theorem grpP_each {S : Nat → Prop} {w : World} {a : Option Addr} {l : List GC} (h : Own grpP w a l S) : EachG w l := h.each (fun x S hx => grpP_at hx)

theorem In.getGC {w : World} {b o : Nat} {l : List GC} (h : In w b o l) (i : Nat) (hi : i < l.length) :
    w.cell? ⟨b, o + i * 4, none⟩ = some (.int .i64 l[i].gen) ∧ w.cell? ⟨b, o + i * 4 + 1, none⟩ = some (.slice l[i].a1 l[i].m.length l[i].c1) ∧ w.cell? ⟨b, o + i * 4 + 2, none⟩ = some (.slice l[i].a2 l[i].b.length l[i].c2) ∧ w.cell? ⟨b, o + i * 4 + 3, none⟩ = some (.slice l[i].a3 l[i].o.length l[i].c3) :=
  ⟨h.cell i hi (f := 0) rfl, h.cell i hi (f := 1) rfl, h.cell i hi (f := 2) rfl, h.cell i hi (f := 3) rfl⟩
theorem infoGC : (Tryz.prog.info? 74).map (fun i => (i.zero, i.size, i.bytes)) = some (some (.agg #[.int .i64 0, .slice none 0 0, .slice none 0 0, .slice none 0 0]), 4, 80) := by kernel_rfl
def szGC (x : GC) : Nat := x.m.length + x.b.length + x.o.length


theorem three_P {n : Nat} {w : World} {x y z : Nat} {m b o : List Int} {gen : Int} {c1 c2 c3 : Nat} (h : Three n w x y z m b o) : grpP w ⟨gen, some ⟨x, 0, none⟩, c1, m, some ⟨y, 0, none⟩, c2, b, some ⟨z, 0, none⟩, c3, o⟩ (fun i => i = x ∨ i = y ∨ i = z) := by
  have h2 := h.xy; have h3 := h.yz; have h4 := h.zs
  exact ⟨fun i => i = x, fun i => i = y, fun i => i = z, fun _ e => .inl e, fun _ e => .inr (.inl e), fun _ e => .inr (.inr e), fun _ e e' => by omega, fun _ e e' => by omega, fun _ e e' => by omega,
    .inr ⟨x, 0, rfl, rfl, by omega, h.im, h.tm⟩, .inr ⟨y, 0, rfl, rfl, by omega, h.ib, h.tb⟩, .inr ⟨z, 0, rfl, rfl, h.zs, h.io, h.to⟩⟩


set_option maxRecDepth 100000 in
set_option maxHeartbeats 1000000 in
theorem eqGroupS_same (A A' : Option Addr) (cap cap' : Nat) (l l' : List GC) (hl : l.length ≤ 9223372036854775807) (hr : ∀ x ∈ l, x.m.length ≤ 9223372036854775807 ∧ x.b.length ≤ 9223372036854775807 ∧ x.o.length ≤ 9223372036854775807) (hsame : l'.map GC.p = l.map GC.p) (w : World) (hA : At w A l) (hE : EachG w l) (hA' : At w A' l') (hE' : EachG w l') :
    Calls Tryz.prog 22 #[.slice A l.length cap, .slice A' l.length cap'] w fun e w' => e = .returned (.bool true) ∧ Below w.heap.size w w' := by
  have HA := hidP hA
  have HE := hidP hE
  have HA' := hidP hA'
  have HE' := hidP hE'
  have Hr := hidP hr
  have HS := hidP hsame
  have HLL : Hid (l'.length = l.length) := by have := congrArg List.length hsame; show _ = _; simpa using this
  clear hA hE hA' hE' hr hsame
  go_enter Tryz.func22, Tryz.ntmps22
  go_wp2
  go_loopw [5] (fun i w' => ∃ (n : Nat), i = .int .i64 (n : Int) ∧ n ≤ l.length ∧ Below w.heap.size w w') (fun i _ => l.length - (intOf i).toNat)
  case atStart => exact ⟨0, rfl, by omega, Below.refl _ _⟩
  case round =>
    obtain ⟨n, rfl, hn, hbl⟩ := hrel
    by_cases hlt : n < l.length
    · have hll := HLL.out
      obtain ⟨b, o, rfl, hbs, hin⟩ : ∃ b o, A = some ⟨b, o, none⟩ ∧ b < w.heap.size ∧ In w b o l := by
        rcases HA.out with h | h
        · subst h; simp at hlt
        · exact h
      obtain ⟨b', o', rfl, hbs', hin'⟩ : ∃ b o, A' = some ⟨b, o, none⟩ ∧ b < w.heap.size ∧ In w b o l' := by
        rcases HA'.out with h | h
        · subst h; simp at hll; omega
        · exact h
      have hp : (l'[n]'(by omega)).p = l[n].p := by
        have h1 : (l'.map GC.p)[n]'(by simp; omega) = (l.map GC.p)[n]'(by simpa using hlt) := by simp only [HS.out]
        simpa using h1
      obtain ⟨c0, c1, c2, c3⟩ := (hin.below hbs hbl).getGC n hlt
      obtain ⟨d0, d1, d2, d3⟩ := (hin'.below hbs' hbl).getGC n (by omega)
      have hat := HE.out _ (List.getElem_mem hlt)
      have hat' := HE'.out _ (List.getElem_mem (show n < l'.length by omega))
      have hms := Hr.out _ (List.getElem_mem hlt)
      generalize l'[n]'(by omega) = y at hp d0 d1 d2 d3 hat'
      generalize l[n] = x at hp c0 c1 c2 c3 hat hms
      obtain ⟨yg, y1, yc1, ym, y2, yc2, yb, y3, yc3, yo⟩ := y
      obtain ⟨xg, x1, xc1, xm, x2, xc2, xb, x3, xc3, xo⟩ := x
      simp only [GC.p, PG.mk.injEq] at hp
      obtain ⟨rfl, rfl, rfl, rfl⟩ := hp
      simp only at c0 c1 c2 c3 d0 d1 d2 d3 hms
      have Hat := hidP (hat.below hbl)
      have Hat' := hidP (hat'.below hbl)
      clear hat hat' hll
      have hb1 : b < wr.heap.size := Nat.lt_of_lt_of_le hbs hbl.size
      have hb2 : b' < wr.heap.size := Nat.lt_of_lt_of_le hbs' hbl.size
      have hi0 : (0 : Int) ≤ (n : Int) := by omega
      have hi1 : (n : Int) < (l.length : Int) := by omega
      go_wp2
      go_region_held3 (fun w' => w'.cell? ⟨b, o + n * 4, none⟩ = some (.int .i64 yg) ∧ w'.cell? ⟨b, o + n * 4 + 1, none⟩ = some (.slice x1 ym.length xc1) ∧ w'.cell? ⟨b, o + n * 4 + 2, none⟩ = some (.slice x2 yb.length xc2) ∧ w'.cell? ⟨b, o + n * 4 + 3, none⟩ = some (.slice x3 yo.length xc3) ∧
          w'.cell? ⟨b', o' + n * 4, none⟩ = some (.int .i64 yg) ∧ w'.cell? ⟨b', o' + n * 4 + 1, none⟩ = some (.slice y1 ym.length yc1) ∧ w'.cell? ⟨b', o' + n * 4 + 2, none⟩ = some (.slice y2 yb.length yc2) ∧ w'.cell? ⟨b', o' + n * 4 + 3, none⟩ = some (.slice y3 yo.length yc3) ∧ wr.heap.size ≤ w'.heap.size)
        (first | (go_split_ands; refine ⟨?_, ?_, ?_, ?_, ?_, ?_, ?_, ?_, ?_⟩ <;> first | assumption | exact (k1 _ _ hb1).trans (by assumption) | exact (k1 _ _ hb2).trans (by assumption) | exact s1 | (simp; done)) | go_keep)
        (first
          | (go_at_call 72; refine (eqGroup_same _ _ _ _ _ _ _ _ _ _ _ _ _ ym yb yo hms.1 hms.2.1 hms.2.2 _ (Hat.out.1.below (Below.drew (Below.refl _ _))) (Hat.out.2.1.below (Below.drew (Below.refl _ _))) (Hat.out.2.2.below (Below.drew (Below.refl _ _))) (Hat'.out.1.below (Below.drew (Below.refl _ _))) (Hat'.out.2.1.below (Below.drew (Below.refl _ _))) (Hat'.out.2.2.below (Below.drew (Below.refl _ _)))).mono ?_; rintro e w1 ⟨rfl, g1⟩; obtain ⟨k1, m1⟩ := bcell g1; have s1 := g1.size))
      all_goals
        go_wp2
        exact ⟨⟨n + 1, by go_num, by omega, via0 g1 hbl.drew⟩, by simp [intOf]; omega⟩
    · go_wp2
      go_ret
      exact ⟨rfl, hbl⟩

def cG (x : GC) : Nat := 1 + x.m.length + x.b.length + x.o.length
def mG (x : GC) (z : Int) : GC := ⟨z, x.a1, x.c1, marksInt x.m.length (z + 1), x.a2, x.c2, marksInt x.b.length (z + 1 + x.m.length), x.a3, x.c3, marksInt x.o.length (z + 1 + x.m.length + x.b.length)⟩

/-- Numbers marked where they lie. -/
theorem mark_ints (a : Option Addr) (cap : Nat) (l : List Int) (S : Nat → Prop) (k : Int) (hk : 1 ≤ k) (hk' : k ≤ 100000000) (hl : l.length ≤ 2000000) (w : World) (h : Sub w a l S) :
    Calls Tryz.prog 28 #[.slice a l.length cap, .int .i64 k] w fun e w' => e = .returned (.int .i64 (k + (l.length : Int))) ∧ Offp S w w' ∧ Sub w' a (marksInt l.length k) S := by
  rcases h with rfl | ⟨b, o, rfl, hS, hb, hi, ht⟩
  · refine (markInt_none a cap k w).mono ?_
    rintro e w' ⟨rfl, rfl⟩
    exact ⟨by simp, Offp.refl _ _, .inl rfl⟩
  · refine (markInt_any b o cap l.length k hk hk' hl w hb ht).mono ?_
    rintro e w' ⟨rfl, ko, hin, hth⟩
    exact ⟨rfl, (Offp.of_only ko).mono (fun x e => e ▸ hS), .inr ⟨b, o, rfl, hS, Nat.lt_of_lt_of_le hb ko.size, hin, by rw [marksInt_length]; exact hth⟩⟩

set_option maxRecDepth 100000 in
set_option maxHeartbeats 1000000 in
theorem markGroupS_any (b o cap : Nat) (l : List GC) (fp : Nat → Nat → Prop) (k : Int) (hk : 1 ≤ k) (hk' : k ≤ 50000000) (hc : count cG l ≤ 50000000) (hl : l.length ≤ 1048576) (hs : ∀ x ∈ l, x.m.length ≤ 1048576 ∧ x.b.length ≤ 1048576 ∧ x.o.length ≤ 1048576) (w : World) (hO : OwnF grpP w b o l fp) :
    Calls Tryz.prog 27 #[.slice (some ⟨b, o, none⟩) l.length cap, .int .i64 k] w fun e w' => e = .returned (.int .i64 (k + (count cG l : Int))) ∧ Offp (fun x => x = b ∨ ∃ i, fp i x) w w' ∧ OwnF grpP w' b o (marked mG cG l k) fp := by
  have HO := hidP hO
  have Hs := hidP hs
  have Hc := hidP hc
  clear hO hs hc
  go_enter Tryz.func27, Tryz.ntmps27
  go_wp2
  go_loopw [1, 5] (fun kk i w' => ∃ (n : Nat) (z : Int), i = .int .i64 (n : Int) ∧ kk = .int .i64 z ∧ n ≤ l.length ∧ 1 ≤ z ∧ z ≤ 100000000 ∧ Hid (z = k + (count cG (l.take n) : Int)) ∧ Hid (Offp (fun x => x = b ∨ ∃ i, fp i x) w w') ∧ Hid (OwnF grpP w' b o (half mG cG l k n) fp)) (fun _ i _ => l.length - (intOf i).toNat)
  case atStart => exact ⟨0, k, rfl, rfl, by omega, hk, by omega, by simp [Hid, count], Offp.refl _ _, by rw [half_zero]; exact HO.out⟩
  case round =>
    obtain ⟨n, z, rfl, rfl, hn, hz1, hz2, hz, hoff, hown⟩ := hrel
    by_cases hlt : n < l.length
    · have hhl := half_length mG cG l k n
      have hge := half_get mG cG l k n hlt (by omega)
      have hit := Hs.out _ (List.getElem_mem hlt)
      obtain ⟨c0, c1, c2, c3⟩ := hown.out.lst.getGC n (by omega)
      have hth := hown.out.th
      rw [hhl] at hth
      obtain ⟨_, f0⟩ := there_at (f := 0) hth hlt (by decide)
      simp only [Nat.add_zero, show Cel.k GC = 4 from rfl] at f0
      rw [hge] at c0 c1 c2 c3
      have hsu := half_succ mG cG l k n hlt
      rw [← hz.out] at hsu
      have hcn : count cG (l.take n) + cG l[n] ≤ 50000000 := by rw [← count_snoc cG l n hlt]; exact Nat.le_trans (count_le cG l (n + 1)) Hc.out
      have Hsn := hidP (count_snoc cG l n hlt)
      generalize hx : l[n] = x at c0 c1 c2 c3 hit hsu hcn hge Hsn
      obtain ⟨xg, x1, xc1, xm, x2, xc2, xb, x3, xc3, xo⟩ := x
      simp only at c0 c1 c2 c3 hit
      have O1 := hown.out.set1 grpP_firm n (by omega) ⟨z, x1, xc1, xm, x2, xc2, xb, x3, xc3, xo⟩ 0 (by decide) (.int .i64 z) (by rw [hge]; rfl) (fun W S h => by rw [hge] at h; exact h)
      simp only [Nat.add_zero, show Cel.k GC = 4 from rfl] at O1
      have Hhl := hidP hhl
      have Hsu := hidP hsu
      have Hcn := hidP hcn
      have HO1 := hidP O1
      have hsub := O1.sub n (by simp; omega)
      rw [List.getElem_set_self] at hsub
      obtain ⟨S1, S2, S3, i1, i2, i3, e1, e2, e3, s1, s2, s3⟩ := hsub
      have hlen : n < ((half mG cG l k n).set n ⟨z, x1, xc1, xm, x2, xc2, xb, x3, xc3, xo⟩).length := by rw [List.length_set]; omega
      have Hlen := hidP hlen
      have H1 := hidP s1
      have H2 := hidP s2
      have H3 := hidP s3
      have hzc : z + 1 + xm.length + xb.length + xo.length ≤ 100000000 := by
        have h3 := hz.out; have h4 := Hcn.out; simp only [cG] at h4; omega
      clear hx hhl hsu hcn O1 hge hth s1 s2 s3 hlen
      go_wp2_with fail
      refine (mark_ints x1 xc1 xm S1 (z + 1) (by omega) (by omega) (by omega) _ H1.out).mono ?_
      rintro e w1 ⟨rfl, k1, t1⟩
      have O2 := HO1.out.turn grpP_firm n Hlen.out ⟨z, x1, xc1, marksInt xm.length (z + 1), x2, xc2, xb, x3, xc3, xo⟩ (by rw [List.getElem_set_self]; simp only [Cel.cs, marksInt_length, mG]) (k1.mono i1) ⟨S1, S2, S3, i1, i2, i3, e1, e2, e3, t1, H2.out.offp k1 (fun y h h' => e1 y h' h), H3.out.offp k1 (fun y h h' => e2 y h' h)⟩
      rw [List.set_set] at O2
      obtain ⟨_, _, c2', c3'⟩ := O2.lst.getGC n (by simp; have := Hhl.out; omega)
      simp only [List.getElem_set_self] at c2' c3'
      have HO2 := hidP O2
      have Hk1 := hidP k1
      have Ht1 := hidP t1
      clear c0 c1 c2 c3 O2 k1 t1
      go_wp2_with fail
      refine (mark_ints x2 xc2 xb S2 _ (by omega) (by omega) (by omega) _ (H2.out.offp Hk1.out (fun y h h' => e1 y h' h))).mono ?_
      rintro e w2 ⟨rfl, k2, t2⟩
      have O3 := HO2.out.turn grpP_firm n (by rw [List.length_set]; have := Hhl.out; omega) ⟨z, x1, xc1, marksInt xm.length (z + 1), x2, xc2, marksInt xb.length (z + 1 + xm.length), x3, xc3, xo⟩ (by rw [List.getElem_set_self]; simp only [Cel.cs, marksInt_length, mG]) (k2.mono i2) ⟨S1, S2, S3, i1, i2, i3, e1, e2, e3, Ht1.out.offp k2 e1, t2, (H3.out.offp Hk1.out (fun y h h' => e2 y h' h)).offp k2 (fun y h h' => e3 y h' h)⟩
      rw [List.set_set] at O3
      obtain ⟨_, _, _, c3⟩ := O3.lst.getGC n (by simp; have := Hhl.out; omega)
      simp only [List.getElem_set_self] at c3
      have HO3 := hidP O3
      have Hk2 := hidP k2
      have Ht2 := hidP t2
      clear c2' c3' O3 k2 t2
      go_wp2_with fail
      refine (mark_ints x3 xc3 xo S3 _ (by omega) (by omega) (by omega) _ ((H3.out.offp Hk1.out (fun y h h' => e2 y h' h)).offp Hk2.out (fun y h h' => e3 y h' h))).mono ?_
      rintro e w3 ⟨rfl, k3, t3⟩
      have O4 := HO3.out.turn grpP_firm n (by rw [List.length_set]; have := Hhl.out; omega) (mG ⟨xg, x1, xc1, xm, x2, xc2, xb, x3, xc3, xo⟩ z) (by rw [List.getElem_set_self]; simp only [Cel.cs, marksInt_length, mG]) (k3.mono i3) ⟨S1, S2, S3, i1, i2, i3, e1, e2, e3, (Ht1.out.offp Hk2.out e1).offp k3 e2, Ht2.out.offp k3 e3, t3⟩
      rw [List.set_set, ← Hsu.out] at O4
      have HO4 := hidP O4
      have Hk3 := hidP k3
      clear O4 k3 t3
      go_wp2
      have hz' := hz.out
      refine ⟨⟨n + 1, z + 1 + (xm.length : Int) + (xb.length : Int) + (xo.length : Int), by go_num, rfl, by omega, by omega, by omega, ?_, ?_, HO4.out⟩, by simp [intOf]; omega⟩
      · show _ = _; rw [Hsn.out, hz']; simp only [cG]; omega
      · exact (((hoff.out.set (.inl rfl) _ _).trans (Hk1.out.mono (fun x hx => .inr ⟨n, i1 x hx⟩))).trans (Hk2.out.mono (fun x hx => .inr ⟨n, i2 x hx⟩))).trans (Hk3.out.mono (fun x hx => .inr ⟨n, i3 x hx⟩))
    · obtain rfl : n = l.length := by omega
      go_wp2
      go_ret
      have e := hz.out
      rw [count_all cG l _ (Nat.le_refl _)] at e
      have hh := hown.out
      rw [half_all mG cG l k _ (Nat.le_refl _)] at hh
      subst e
      exact ⟨rfl, hoff.out, hh⟩

theorem at_zero {W : World} {a : Option Addr} {q : Nat} {z : Int} (h : At W a (marksInt q z)) : q = 0 ∨ ∃ b o, a = some ⟨b, o, none⟩ ∧ b < W.heap.size ∧ In W b o (marksInt q z) :=
  h.imp (fun e => by have := congrArg List.length e; rw [marksInt_length] at this; simpa using this) id
set_option maxRecDepth 100000 in
set_option maxHeartbeats 1000000 in
theorem heldGroupS_any (A : Option Addr) (cap : Nat) (l : List GC) (k : Int) (hk : 1 ≤ k) (hk' : k ≤ 50000000) (hc : count cG l ≤ 50000000) (hl : l.length ≤ 1048576) (hs : ∀ x ∈ l, x.m.length ≤ 1048576 ∧ x.b.length ≤ 1048576 ∧ x.o.length ≤ 1048576) (w : World) (hA : At w A (marked mG cG l k)) (hE : EachG w (marked mG cG l k)) :
    Calls Tryz.prog 32 #[.slice A l.length cap, .int .i64 k] w fun e w' => e = .returned (.int .i64 (k + (count cG l : Int))) ∧ Below w.heap.size w w' := by
  have HA := hidP hA
  have HE := hidP hE
  have Hs := hidP hs
  have Hc := hidP hc
  clear hA hE hs hc
  have HML := hidP (marked_length mG cG l k)
  go_enter Tryz.func32, Tryz.ntmps32
  go_wp2
  go_loopw [1, 5] (fun kk i w' => ∃ (n : Nat) (z : Int), i = .int .i64 (n : Int) ∧ kk = .int .i64 z ∧ n ≤ l.length ∧ 1 ≤ z ∧ z ≤ 100000000 ∧ Hid (z = k + (count cG (l.take n) : Int)) ∧ Below w.heap.size w w') (fun _ i _ => l.length - (intOf i).toNat)
  case atStart => exact ⟨0, k, rfl, rfl, by omega, hk, by omega, by simp [Hid, count], Below.refl _ _⟩
  case round =>
    obtain ⟨n, z, rfl, rfl, hn, hz1, hz2, hz, hbl⟩ := hrel
    by_cases hlt : n < l.length
    · have hml := HML.out
      obtain ⟨b, o, rfl, hbs, hin⟩ : ∃ b o, A = some ⟨b, o, none⟩ ∧ b < w.heap.size ∧ In w b o (marked mG cG l k) := by
        rcases HA.out with h | h
        · rw [h] at hml; simp at hml; omega
        · exact h
      have hmn : n < (marked mG cG l k).length := by omega
      have hge := marked_get mG cG l n hlt k hmn
      rw [← hz.out] at hge
      obtain ⟨c0, c1, c2, c3⟩ := (hin.below hbs hbl).getGC n hmn
      have hat := (HE.out _ (List.getElem_mem hmn)).below hbl
      rw [hge] at c0 c1 c2 c3 hat
      have hit := Hs.out _ (List.getElem_mem hlt)
      have hcn : count cG (l.take n) + cG l[n] ≤ 50000000 := by rw [← count_snoc cG l n hlt]; exact Nat.le_trans (count_le cG l (n + 1)) Hc.out
      have Hsn := hidP (count_snoc cG l n hlt)
      generalize hx : l[n] = x at c0 c1 c2 c3 hit hcn hat Hsn
      obtain ⟨xg, x1, xc1, xm, x2, xc2, xb, x3, xc3, xo⟩ := x
      simp only [mG, marksInt_length] at c0 c1 c2 c3 hit
      simp only [mG, atG] at hat
      have Hat := hidP hat
      have Hcn := hidP hcn
      have hzc : z + 1 + xm.length + xb.length + xo.length ≤ 100000000 := by
        have h3 := hz.out; have h4 := Hcn.out; simp only [cG] at h4; omega
      have hb1 : b < wr.heap.size := Nat.lt_of_lt_of_le hbs hbl.size
      clear hml hge hx hcn hat
      have n1 : ¬ z + 1 + (xm.length : Int) < 0 := by omega
      have n2 : ¬ z + 1 + (xm.length : Int) + (xb.length : Int) < 0 := by omega
      have n3 : ¬ z + 1 + (xm.length : Int) + (xb.length : Int) + (xo.length : Int) < 0 := by omega
      go_wp2_with fail
      refine (heldInt_any x1 xc1 xm.length (z + 1) (by omega) (by omega) (by omega) _ (at_zero Hat.out.1)).mono ?_
      rintro e w1 ⟨rfl, g1⟩
      obtain ⟨k1, m1⟩ := bcell g1
      have q1 := Nat.lt_of_lt_of_le hb1 g1.size
      go_wp2_with fail
      refine (heldInt_any x2 xc2 xb.length (z + 1 + (xm.length : Int)) (by omega) (by omega) (by omega) _ (at_zero (Hat.out.2.1.below g1))).mono ?_
      rintro e w2 ⟨rfl, g2⟩
      obtain ⟨k2, m2⟩ := bcell g2
      have q2 := Nat.lt_of_lt_of_le q1 g2.size
      go_wp2_with fail
      refine (heldInt_any x3 xc3 xo.length (z + 1 + (xm.length : Int) + (xb.length : Int)) (by omega) (by omega) (by omega) _ (at_zero ((Hat.out.2.2.below g1).below g2))).mono ?_
      rintro e w3 ⟨rfl, g3⟩
      go_wp2
      have hz' := hz.out
      refine ⟨⟨n + 1, z + 1 + (xm.length : Int) + (xb.length : Int) + (xo.length : Int), by go_num, rfl, by omega, by omega, by omega, ?_, via0 g3 (via0 g2 (via0 g1 hbl))⟩, by simp [intOf]; omega⟩
      show _ = _; rw [Hsn.out, hz']; simp only [cG]; omega
    · obtain rfl : n = l.length := by omega
      go_wp2
      go_ret
      have e := hz.out
      rw [count_all cG l _ (Nat.le_refl _)] at e
      subst e
      exact ⟨rfl, hbl⟩

end Go.Proofs.YtjjbbkmedpfenaaGreat.Gen

/-
  A group under way in the program's reader: its box, its two lists, each in a block of its own. Condition: at most 1048576 bytes.
-/
namespace Go.Proofs.YtjjbbkmedpfenaaGreat.Gen
open Go.ChangeShapes Go.WideShapes Go.ChangeAt Go.RowKit Go.Joins Go.Deep Base
set_option linter.unusedVariables false
set_option linter.unusedSimpArgs false

def getIn (l : List UInt8) (i : Int) : Option (Int × Nat) := match getN l i with | none => none | some (n, c) => some ((n : Int), c)
theorem getIn_le {l : List UInt8} {i : Nat} {x : Int} {c : Nat} (h : getIn l (i : Int) = some (x, c)) : i < c ∧ c ≤ l.length := by
  unfold getIn at h
  cases hx : getN l (i : Int) with
  | none => simp [hx] at h
  | some p =>
  obtain ⟨n, d⟩ := p
  have := getN_le hx
  simp [hx] at h
  omega
def getPr (l : List UInt8) (i : Int) : Option ((Int × Int) × Nat) := match getN l i with | none => none | some (n1, c1) => match getN l (c1 : Int) with | none => none | some (n2, c2) => some (((n1 : Int), (n2 : Int)), c2)
theorem getPr_le {l : List UInt8} {i : Nat} {x : Int × Int} {c : Nat} (h : getPr l (i : Int) = some (x, c)) : i < c ∧ c ≤ l.length := by
  unfold getPr at h
  cases hx1 : getN l (i : Int) with
  | none => simp [hx1] at h
  | some p1 =>
  obtain ⟨n1, c1⟩ := p1
  have hl1 := getN_le hx1
  cases hx2 : getN l (c1 : Int) with
  | none => simp [hx1, hx2] at h
  | some p2 =>
  obtain ⟨n2, c2⟩ := p2
  have hl2 := getN_le hx2
  simp [hx1, hx2] at h
  omega
theorem readIn_any (r : Nat) (A : Option Addr) (cap : Nat) (l : List UInt8) (i : Int) (hl : l.length ≤ 1048576) (w : World) (h : Rd w r A cap l i) :
    Calls Tryz.prog 54 #[.pointer (some ⟨r, 0, none⟩)] w fun e w' => Reads isIn r A cap l w e w' (getIn l i) := by
  refine (readNum_any r A cap l i hl w h).mono ?_
  intro e w' h1
  unfold getIn
  cases hx : getN l i with
  | none => rw [hx] at h1; exact h1
  | some p => rw [hx] at h1; exact h1

/-- A group under way: read so far its number and some of its members and beats. -/
structure GW (w W : World) (r : Nat) (A : Option Addr) (cap : Nat) (l : List UInt8) (c : Nat) (gen : Int) (a1 : Option Addr) (c1 : Nat) (ms : List Int) (a2 : Option Addr) (c2 : Nat) (bs : List Int) : Prop where
  rd : Rd W r A cap l (c : Int)
  only : Only r w W
  box : Blk W (w.heap.size + 1) 74 #[.int .i64 gen, .slice a1 ms.length c1, .slice a2 bs.length c2, .slice none 0 0]
  res : Blk W w.heap.size 74 #[.int .i64 0, .slice none 0 0, .slice none 0 0, .slice none 0 0]
  o1 : W.ownsRow (w.heap.size + 2) 3 1 (.slice a1 ms.length c1) ms.length (flat ms)
  o2 : W.ownsRow (w.heap.size + 2) 3 1 (.slice a2 bs.length c2) bs.length (flat bs)
  dis : ∀ x, (Value.slice a1 ms.length c1).ownBlock = some x → (Value.slice a2 bs.length c2).ownBlock ≠ some x
  lr : r < w.heap.size
  la : l = [] ∨ ∀ c o, A = some ⟨c, o, none⟩ → c < w.heap.size
section
variable {w W W1 : World} {r : Nat} {A : Option Addr} {cap : Nat} {l : List UInt8} {c d : Nat} {gen : Int} {a1 : Option Addr} {c1 : Nat} {ms : List Int} {a2 : Option Addr} {c2 : Nat} {bs : List Int}
theorem GW.step (h : GW w W r A cap l c gen a1 c1 ms a2 c2 bs) (o : Only r W W1) (h1 : Rd W1 r A cap l (d : Int)) : GW w W1 r A cap l d gen a1 c1 ms a2 c2 bs := by
  have hlr := h.lr
  exact ⟨h1, only_trans h.only o, h.box.only o (by omega), h.res.only o (by omega), owns_only' h.o1 o (by omega), owns_only' h.o2 o (by omega), h.dis, h.lr, h.la⟩
theorem GW.drew (h : GW w W r A cap l c gen a1 c1 ms a2 c2 bs) : GW w W.drew r A cap l c gen a1 c1 ms a2 c2 bs := by
  refine h.step ⟨rfl, rfl, rfl, Nat.le_refl _, fun _ _ _ => rfl⟩ (h.rd.below ⟨rfl, rfl, rfl, Nat.le_refl _, fun _ _ => rfl⟩)

theorem GW.app1 (h : GW w W r A cap l c gen a1 c1 ms a2 c2 bs) (x : Int) (hx : ms.length ≤ 2000000) :
    ∃ a' c' W2, (Builtin.append_ #[28, 28] 28 #[.slice a1 ms.length c1, .slice (some ⟨W.heap.size, 0, none⟩) 1 1]).run Tryz.prog (W.alloc (.cells #[.int .i64 x] 3)) = .ok (.slice a' (ms.length + 1) c') W2 ∧ Blk W2 (w.heap.size + 1) 74 #[.int .i64 gen, .slice a1 ms.length c1, .slice a2 bs.length c2, .slice none 0 0] ∧ GW w (W2.setCell ⟨w.heap.size + 1, 1, none⟩ (.slice a' (ms.length + 1) c')) r A cap l c gen a' c' (ms ++ [x]) a2 c2 bs := by
  have hlr := h.lr
  have hws := h.only.size
  have hbx := h.box.lt
  have own1 := owns_alloc h.o1 (.cells #[.int .i64 x] 3)
  have hX : At (W.alloc (.cells #[.int .i64 x] 3)) (some ⟨W.heap.size, 0, none⟩) [x] := by
    refine .inr ⟨_, 0, rfl, by simp, fun j u hu => ?_⟩
    rw [flat_one] at hu
    rw [Nat.zero_add]
    exact (Blk.new W 3 #[.int .i64 x]).cell (by simpa [Cel.cs] using hu)
  obtain ⟨v', W2, hr, hown, hgrow, hob⟩ := append_els (α := Int) (P := Tryz.prog) (z := .int .i64 0) Tryz.underlying28 infoInt rfl (by decide) (by decide) (w.heap.size + 2) (.slice a1 ms.length c1) ms [x] (some ⟨W.heap.size, 0, none⟩) 1 _ (by simp; omega) own1 hX (by simp; omega)
  simp only [List.length_cons, List.length_nil, Nat.zero_add] at hown hr
  obtain ⟨a', c', rfl, _⟩ := owns_form hown
  have ko := offp_grown hgrow
  have hS : ∀ y, (Value.slice a1 ms.length c1).ownBlock = some y → w.heap.size + 2 ≤ y ∧ y < W.heap.size := fun y hy => h.o1.lt y hy
  have hT : ∀ y, (Value.slice a2 bs.length c2).ownBlock = some y → w.heap.size + 2 ≤ y ∧ y < W.heap.size := fun y hy => h.o2.lt y hy
  have kc := Offp.of_only ((Only.refl (w.heap.size + 1) W2).set 1 (.slice a' (ms.length + 1) c'))
  have b2 := (h.box.alloc (.cells #[.int .i64 x] 3)).offp ko (fun e => by have := (hS _ e).1; omega)
  refine ⟨a', c', W2, hr, b2, ⟨?_, ?_, ?_, ?_, ?_, ?_, ?_, h.lr, h.la⟩⟩
  · exact ((h.rd.below (alloc0 (Below.refl _ _) _)).offp ko (fun e => by have := (hS _ e).1; omega) (h.la.imp id fun f c o e e' => by have := f c o e; have := (hS _ e').1; omega)).offp kc (by show r ≠ _; omega) (h.la.imp id fun f c o e => by show c ≠ _; have := f c o e; omega)
  · exact only_offp (only_offp (h.only.below (alloc0 (Below.refl _ _) _)) ko (fun y e => by have := (hS y e).1; omega)) kc (fun y e => by subst e; omega)
  · have := b2.setAt 1 (.slice a' (ms.length + 1) c')
    rw [List.length_append]
    exact this
  · exact ((h.res.alloc _).offp ko (fun e => by have := (hS _ e).1; omega)).other (by omega) _ _
  · have hq := owns_set (C := w.heap.size + 1) (i := 1) (u := .slice a' (ms.length + 1) c') hown (owns_far hown (by omega))
    rw [List.length_append]
    exact hq
  · exact owns_set (owns_offp (owns_alloc h.o2 _) ko (fun y e e' => h.dis y e' e)) (owns_far h.o2 (by omega))
  · intro y e e'
    rw [List.length_append] at e
    rcases hob with h' | h'
    · exact h.dis y (h' ▸ e) e'
    · have e2 : (Value.slice a' (ms.length + 1) c').ownBlock = some y := e
      rw [h'] at e2
      simp only [World.size_alloc, Option.some.injEq] at e2
      have := (hT y e').2
      omega

theorem GW.app2 (h : GW w W r A cap l c gen a1 c1 ms a2 c2 bs) (x : Int) (hx : bs.length ≤ 2000000) :
    ∃ a' c' W2, (Builtin.append_ #[28, 28] 28 #[.slice a2 bs.length c2, .slice (some ⟨W.heap.size, 0, none⟩) 1 1]).run Tryz.prog (W.alloc (.cells #[.int .i64 x] 3)) = .ok (.slice a' (bs.length + 1) c') W2 ∧ Blk W2 (w.heap.size + 1) 74 #[.int .i64 gen, .slice a1 ms.length c1, .slice a2 bs.length c2, .slice none 0 0] ∧ GW w (W2.setCell ⟨w.heap.size + 1, 2, none⟩ (.slice a' (bs.length + 1) c')) r A cap l c gen a1 c1 ms a' c' (bs ++ [x]) := by
  have hlr := h.lr
  have hws := h.only.size
  have hbx := h.box.lt
  have own1 := owns_alloc h.o2 (.cells #[.int .i64 x] 3)
  have hX : At (W.alloc (.cells #[.int .i64 x] 3)) (some ⟨W.heap.size, 0, none⟩) [x] := by
    refine .inr ⟨_, 0, rfl, by simp, fun j u hu => ?_⟩
    rw [flat_one] at hu
    rw [Nat.zero_add]
    exact (Blk.new W 3 #[.int .i64 x]).cell (by simpa [Cel.cs] using hu)
  obtain ⟨v', W2, hr, hown, hgrow, hob⟩ := append_els (α := Int) (P := Tryz.prog) (z := .int .i64 0) Tryz.underlying28 infoInt rfl (by decide) (by decide) (w.heap.size + 2) (.slice a2 bs.length c2) bs [x] (some ⟨W.heap.size, 0, none⟩) 1 _ (by simp; omega) own1 hX (by simp; omega)
  simp only [List.length_cons, List.length_nil, Nat.zero_add] at hown hr
  obtain ⟨a', c', rfl, _⟩ := owns_form hown
  have ko := offp_grown hgrow
  have hS : ∀ y, (Value.slice a2 bs.length c2).ownBlock = some y → w.heap.size + 2 ≤ y ∧ y < W.heap.size := fun y hy => h.o2.lt y hy
  have hT : ∀ y, (Value.slice a1 ms.length c1).ownBlock = some y → w.heap.size + 2 ≤ y ∧ y < W.heap.size := fun y hy => h.o1.lt y hy
  have kc := Offp.of_only ((Only.refl (w.heap.size + 1) W2).set 2 (.slice a' (bs.length + 1) c'))
  have b2 := (h.box.alloc (.cells #[.int .i64 x] 3)).offp ko (fun e => by have := (hS _ e).1; omega)
  refine ⟨a', c', W2, hr, b2, ⟨?_, ?_, ?_, ?_, ?_, ?_, ?_, h.lr, h.la⟩⟩
  · exact ((h.rd.below (alloc0 (Below.refl _ _) _)).offp ko (fun e => by have := (hS _ e).1; omega) (h.la.imp id fun f c o e e' => by have := f c o e; have := (hS _ e').1; omega)).offp kc (by show r ≠ _; omega) (h.la.imp id fun f c o e => by show c ≠ _; have := f c o e; omega)
  · exact only_offp (only_offp (h.only.below (alloc0 (Below.refl _ _) _)) ko (fun y e => by have := (hS y e).1; omega)) kc (fun y e => by subst e; omega)
  · have := b2.setAt 2 (.slice a' (bs.length + 1) c')
    rw [List.length_append]
    exact this
  · exact ((h.res.alloc _).offp ko (fun e => by have := (hS _ e).1; omega)).other (by omega) _ _
  · exact owns_set (owns_offp (owns_alloc h.o1 _) ko (fun y e e' => h.dis y e e')) (owns_far h.o1 (by omega))
  · have hq := owns_set (C := w.heap.size + 1) (i := 2) (u := .slice a' (bs.length + 1) c') hown (owns_far hown (by omega))
    rw [List.length_append]
    exact hq
  · intro y e e'
    rw [List.length_append] at e'
    rcases hob with h' | h'
    · exact h.dis y e (h' ▸ e')
    · have e2 : (Value.slice a' (bs.length + 1) c').ownBlock = some y := e'
      rw [h'] at e2
      simp only [World.size_alloc, Option.some.injEq] at e2
      have := (hT y e).2
      omega
end
end Go.Proofs.YtjjbbkmedpfenaaGreat.Gen

/-
  A region that draws its order, and whose last operation (a store, as a rule) waits for all others: what its loads read need hold up to that operation alone, so that it may write the very cells that they read. No condition.
-/
namespace Go.Proofs.YtjjbbkmedpfenaaGreat.Gen
set_option linter.unusedVariables false

section
variable {P : Program} {ops : Array Oper} {Q : Exit → Act → World → Prop} {md : Region.Mode} {S : World → Prop} {z : Nat}

/-- Number z waits for every other operation. -/
def waitsForAll (md : Region.Mode) (ops : Array Oper) (z : Nat) : Bool :=
  match ops[z]? with
  | none => false
  | some o => (List.range ops.size).all fun j => j == z || o.after.any fun e => Region.binds md e && e.on == j

/-- While another one is still to come, z cannot come. -/
theorem not_last {i : Nat} {L : Array Bool} (hz : waitsForAll md ops z = true) (hi : i ∈ Region.ready md ops L) (hne : i ≠ z) : z ∉ Region.ready md ops L := fun h => by
  obtain ⟨hu, oi, hoi, _⟩ := mem_ready.1 hi
  obtain ⟨_, oz, hoz, hall⟩ := mem_ready.1 h
  have hlt : i < ops.size := (Array.getElem?_eq_some_iff.1 hoi).1
  simp only [waitsForAll, hoz, List.all_eq_true, List.mem_range, Bool.or_eq_true, beq_iff_eq] at hz
  have h1 := (hz i hlt).resolve_left hne
  obtain ⟨e, he, hb⟩ := Array.any_eq_true'.1 h1
  simp only [Bool.and_eq_true, beq_iff_eq] at hb
  have h2 := hall e he hb.1
  rw [hb.2] at h2
  rcases Nat.lt_or_ge i L.size with h' | h'
  · simp [h'] at hu h2
    rw [hu] at h2; cases h2
  · simp [Array.getElem?_eq_none h'] at h2

/-- Whatever order is picked, S holds behind each operation but z. -/
def anyUpTo (P : Program) (md : Region.Mode) (ops : Array Oper) (Q : Exit → Act → World → Prop) (S : World → Prop) (z : Nat) : Nat → Array Bool → Act → World → Prop
  | 0, L, a, w => Region.ready md ops L = [] ∧ Q .normal a w
  | n + 1, L, a, w => (Region.ready md ops L = [] → Q .normal a w) ∧
    ∀ i ∈ Region.ready md ops L, wpOp P ops Q i (fun a' w' => (i = z ∨ S w') ∧ anyUpTo P md ops Q S z n (L.setIfInBounds i true) a' w') a w

theorem any_of_upTo (n : Nat) : ∀ (L : Array Bool) (a : Act) (w : World), anyUpTo P md ops Q S z n L a w → wpAny P md ops Q n L a w := by
  induction n with
  | zero => exact fun _ _ _ h => h
  | succ n ih => exact fun L a w h => ⟨h.1, fun i hi => wpOp_mono (fun a' w' g => ih _ a' w' g.2) (h.2 i hi)⟩

theorem upTo_take {i : Nat} {oi : Oper} {v : Value} (hz : waitsForAll md ops z = true) (hi : ops[i]? = some oi) (hs : Region.noSelect ops = true) (hQ : ∀ c a w, Q (.panic c) (a.put oi.dst v) w → Q (.panic c) a w) (hiz : i ≠ z) (n : Nat) :
    ∀ (L : Array Bool) (a : Act) (w : World), Region.free md ops L i = true → i ∈ Region.ready md ops L → YieldsIf P ops S oi v a → S w →
      anyUpTo P md ops Q S z n (L.setIfInBounds i true) (a.put oi.dst v) w → anyUpTo P md ops Q S z (n + 1) L a w := by
  have sel : ∀ (j : Nat) (o : Oper) cs b, ops[j]? = some o → o.op ≠ .select cs b := Region.noSelect_spec hs
  suffices key : ∀ (L : Array Bool) (a : Act) (w : World), (∀ j oj, ops[j]? = some oj → j ≠ i → L.getD j true = false → (∀ e ∈ oj.after, Region.binds md e = true → e.on ≠ i) → oi.apart ops oj = true) →
      i ∈ Region.ready md ops L → YieldsIf P ops S oi v a → S w → anyUpTo P md ops Q S z n (L.setIfInBounds i true) (a.put oi.dst v) w → anyUpTo P md ops Q S z (n + 1) L a w from
    fun L a w hf hr hy hS H => key L a w (Region.free_spec hi hf) hr hy hS H
  induction n with
  | zero =>
    intro L a w _ hr hy hS H
    constructor
    · intro h; rw [h] at hr; exact absurd hr (List.not_mem_nil)
    · intro j hj
      rcases Decidable.em (j = i) with e | e
      · subst e; exact hy.wpOp hi hS ⟨.inr hS, H⟩
      · have g := ready_mono hj e
        rw [H.1] at g
        exact absurd g (List.not_mem_nil)
  | succ n ih =>
    intro L a w hfr hr hy hS H
    constructor
    · intro h; rw [h] at hr; exact absurd hr (List.not_mem_nil)
    · intro j hj
      rcases Decidable.em (j = i) with e | e
      · subst e; exact hy.wpOp hi hS ⟨.inr hS, H⟩
      · obtain ⟨hun, oj, hoj, hwait⟩ := mem_ready.1 hj
        have hjz : j ≠ z := fun h => by subst h; exact not_last hz hr hiz hj
        have iun := (mem_ready.1 hr).1
        have hno : ∀ d ∈ oj.after, Region.binds md d = true → d.on ≠ i := fun d hd hb q => by
          have g := hwait d hd hb
          rw [q] at g
          rcases Nat.lt_or_ge i L.size with k | k
          · simp [k] at iun g
            rw [iun] at g; cases g
          · simp [Array.getElem?_eq_none k] at g
        have step := wpOp_putIf hoj (hfr j oj hoj e hun hno) (fun cs b => sel i oi cs b hi) (fun cs b => sel j oj cs b hoj) hQ hy (H.2 j (ready_mono hj e))
        refine wpOp_mono (fun a' w' g => ?_) step
        have hS' : S w' := g.2.1.resolve_left hjz
        refine ⟨.inr hS', ih _ a' w' (fun k ok hk hki hu hn => ?_) (ready_mono hr (Ne.symm e)) g.1 hS' ?_⟩
        · refine hfr k ok hk hki ?_ hn
          rcases Decidable.em (j = k) with q | q
          · subst q; exact hun
          · rwa [getD_set_ne true q] at hu
        · have := g.2.2
          rwa [Array.setIfInBounds_comm _ _ (Ne.symm e)] at this

theorem upTo_taken {i : Nat} {oi : Oper} {v : Value} {n : Nat} {L : Array Bool} {a : Act} {w : World} (hz : waitsForAll md ops z = true) (hi : ops[i]? = some oi) (hs : Region.noSelect ops = true) (hiz : i ≠ z)
    (hf : Region.free md ops L i = true) (hr : (Region.ready md ops L).contains i = true) (hQ : ∀ c a w, Q (.panic c) (a.put oi.dst v) w → Q (.panic c) a w) (hy : YieldsIf P ops S oi v a) (hS : S w)
    (h : anyUpTo P md ops Q S z n (L.setIfInBounds i true) (a.put oi.dst v) w) : anyUpTo P md ops Q S z (n + 1) L a w :=
  upTo_take hz hi hs hQ hiz n L a w hf (by simpa using hr) hy hS h

/-- One operation alone may come next. -/
theorem upTo_next {i : Nat} {o : Oper} {n : Nat} {L : Array Bool} {a : Act} {w : World} (hr : Region.ready md ops L = [i]) (ho : ops[i]? = some o)
    (h : ∀ K' : Act → World → Prop, Shut (∀ a w, (i = z ∨ S w) → anyUpTo P md ops Q S z n (L.setIfInBounds i true) a w → K' a w) → if Region.wanted o (yielded ops a.tmps) = true then Oper.wp P o a w K' Q else K' (a.put o.dst undef) w) :
    anyUpTo P md ops Q S z (n + 1) L a w := by
  refine ⟨fun h0 => (by rw [hr] at h0; cases h0), fun j hj => ?_⟩
  rw [hr] at hj
  obtain rfl : j = i := by simpa using hj
  exact wpOp_step ho (fun K' hK => h K' (fun a w h1 h2 => hK a w ⟨h1, h2⟩))
/-- Either of two may come next. -/
theorem upTo_next2 {i j : Nat} {o p : Oper} {n : Nat} {L : Array Bool} {a : Act} {w : World} (hr : Region.ready md ops L = [i, j]) (ho : ops[i]? = some o) (hp : ops[j]? = some p)
    (h : ∀ K' : Act → World → Prop, Shut (∀ a w, (i = z ∨ S w) → anyUpTo P md ops Q S z n (L.setIfInBounds i true) a w → K' a w) → if Region.wanted o (yielded ops a.tmps) = true then Oper.wp P o a w K' Q else K' (a.put o.dst undef) w)
    (h' : ∀ K' : Act → World → Prop, Shut (∀ a w, (j = z ∨ S w) → anyUpTo P md ops Q S z n (L.setIfInBounds j true) a w → K' a w) → if Region.wanted p (yielded ops a.tmps) = true then Oper.wp P p a w K' Q else K' (a.put p.dst undef) w) :
    anyUpTo P md ops Q S z (n + 1) L a w := by
  refine ⟨fun h0 => (by rw [hr] at h0; cases h0), fun k hk => ?_⟩
  rw [hr] at hk
  rcases List.mem_cons.1 hk with rfl | hk
  · exact wpOp_step ho (fun K' hK => h K' (fun a w h1 h2 => hK a w ⟨h1, h2⟩))
  · obtain rfl : k = j := by simpa using hk
    exact wpOp_step hp (fun K' hK => h' K' (fun a w h1 h2 => hK a w ⟨h1, h2⟩))
theorem upTo_done {L : Array Bool} {a : Act} {w : World} (hr : Region.ready md ops L = []) (h : Q .normal a w) : ∀ n, anyUpTo P md ops Q S z n L a w
  | 0 => ⟨hr, h⟩
  | _ + 1 => ⟨fun _ => h, by rw [hr]; simp⟩
theorem region_upTo {id : Nat} {a : Act} {w : World} (z : Nat) (S : World → Prop) (hm : P.follows .mixedOrders = true) (h : anyUpTo P .any ops Q S z ops.size (Array.replicate ops.size false) a w.drew) : (Code.region id ops true).wp P Q a w :=
  wp_region_any hm (any_of_upTo _ _ _ _ h)
end
end Go.Proofs.YtjjbbkmedpfenaaGreat.Gen

/-
  A group, read by the program's reader. Condition: at most 1048576 bytes.
-/
namespace Go.Proofs.YtjjbbkmedpfenaaGreat.Gen
open Go.ChangeShapes Go.WideShapes Go.ChangeAt Go.RowKit Go.Joins Go.Deep Base
set_option linter.unusedVariables false
set_option linter.unusedSimpArgs false

theorem owns_own {α : Type} [Cel α] {B : Nat} {W : World} {t : TypeId} {a : Option Addr} {c : Nat} {xs : List α} (h : W.ownsRow B t (Cel.k α) (.slice a xs.length c) xs.length (flat xs)) : Sub W a xs (fun b => (Value.slice a xs.length c).ownBlock = some b) :=
  (owns_sub h).imp id fun ⟨b, o, e, hB, hb, hi, ht⟩ => ⟨b, o, e, by rw [e]; rfl, hb, hi, ht⟩
theorem readManyZ_any (rows : Int) (hrw : I64 rows) (r : Nat) (A : Option Addr) (cap : Nat) (l : List UInt8) (hl : l.length ≤ 1048576) (c0 : Nat) (w : World) (h : Rd w r A cap l (c0 : Int)) :
    Calls Tryz.prog 92 #[.pointer (some ⟨r, 0, none⟩), .int .i64 rows, .func (.func 54) #[] #[]] w fun e w' => Reads (isList (α := Int) 3 w.heap.size) r A cap l w e w' (getMany (getIn l) rows.toNat c0) := by
  by_cases h0 : rows < 0
  · have e : rows.toNat = 0 := by omega
    rw [e]
    exact readManyIn_neg r A cap l rows h0 c0 w h
  · obtain ⟨n, rfl⟩ : ∃ n : Nat, rows = (n : Int) := ⟨rows.toNat, by omega⟩
    have hn := hrw.2
    exact readManyIn_any (getIn l) r A cap l hl (fun i x c h => getIn_le h) (fun i W hW => readIn_any r A cap l (i : Int) hl W hW) n (by omega) c0 w h
def getGr (rows : Nat) (l : List UInt8) (i : Int) : Option (PG × Nat) := match getN l i with | none => none | some (n1, c1) => match getN l (c1 : Int) with | none => none | some (n2, c2) => match getMany (getPr l) n2 c2 with | none => none | some (ps, c3) => match getMany (getIn l) rows c3 with | none => none | some (os, c4) => some (⟨(n1 : Int), ps.map Prod.fst, ps.map Prod.snd, os⟩, c4)
theorem getGr_le {rows : Nat} {l : List UInt8} {i : Nat} {x : PG} {c : Nat} (h : getGr rows l (i : Int) = some (x, c)) : i < c ∧ c ≤ l.length := by
  unfold getGr at h
  cases hx1 : getN l (i : Int) with
  | none => simp [hx1] at h
  | some p1 =>
  obtain ⟨n1, c1⟩ := p1
  have hl1 := getN_le hx1
  cases hx2 : getN l (c1 : Int) with
  | none => simp [hx1, hx2] at h
  | some p2 =>
  obtain ⟨n2, c2⟩ := p2
  have hl2 := getN_le hx2
  cases hx3 : getMany (getPr l) n2 c2 with
  | none => simp [hx1, hx2, hx3] at h
  | some p3 =>
  obtain ⟨ps, c3⟩ := p3
  have hl3 := getMany_le (fun i x c h => getPr_le h) n2 c2 hl2.2.2.2.1 hx3
  cases hx4 : getMany (getIn l) rows c3 with
  | none => simp [hx1, hx2, hx3, hx4] at h
  | some p4 =>
  obtain ⟨os, c4⟩ := p4
  have hl4 := getMany_le (fun i x c h => getIn_le h) rows c3 hl3.2.2 hx4
  simp [hx1, hx2, hx3, hx4] at h
  omega
def isGr (B : Nat) (x : PG) (v : Value) (W : World) : Prop := ∃ (a1 : Option Addr) (c1 : Nat) (a2 : Option Addr) (c2 : Nat) (a3 : Option Addr) (c3 : Nat), v = .agg #[.int .i64 x.gen, .slice a1 x.m.length c1, .slice a2 x.b.length c2, .slice a3 x.o.length c3] ∧ grpP W ⟨x.gen, a1, c1, x.m, a2, c2, x.b, a3, c3, x.o⟩ (fun b => B ≤ b ∧ b < W.heap.size)

set_option maxRecDepth 100000 in
set_option maxHeartbeats 4000000 in
theorem readGr_any (rows : Int) (hrw : I64 rows) (r : Nat) (A : Option Addr) (cap : Nat) (l : List UInt8) (i : Int) (hl : l.length ≤ 1048576) (w : World) (h : Rd w r A cap l i) :
    Calls Tryz.prog 53 #[.pointer (some ⟨r, 0, none⟩), .int .i64 rows] w fun e w' => Reads (isGr w.heap.size) r A cap l w e w' (getGr rows.toNat l i) := by
  obtain ⟨hr, hfar⟩ := h.far'
  have Hla : Hid (l = [] ∨ ∀ c o, A = some ⟨c, o, none⟩ → c < w.heap.size) := hidP hfar
  have Hrw := hidP hrw
  have Hfar : Hid (l = [] ∨ ∀ c o, A = some ⟨c, o, none⟩ → c ≠ w.heap.size + 1) := hidP (hfar.imp id fun h c o e => by have := h c o e; omega)
  have Hfar0 : Hid (l = [] ∨ ∀ c o, A = some ⟨c, o, none⟩ → c ≠ w.heap.size) := hidP (hfar.imp id fun h c o e => by have := h c o e; omega)
  have px0 := Blk.new (w.alloc (.cells #[.int .i64 0, .slice none 0 0, .slice none 0 0, .slice none 0 0] 74)) 74 #[.int .i64 0, .slice none 0 0, .slice none 0 0, .slice none 0 0]
  have pr0 := (Blk.new w 74 #[.int .i64 0, .slice none 0 0, .slice none 0 0, .slice none 0 0]).alloc (.cells #[.int .i64 0, .slice none 0 0, .slice none 0 0, .slice none 0 0] 74)
  simp only [World.size_alloc] at px0
  have HC0 := hidP (h.below (alloc0 (alloc0 (Below.refl _ w) (.cells #[.int .i64 0, .slice none 0 0, .slice none 0 0, .slice none 0 0] 74)) (.cells #[.int .i64 0, .slice none 0 0, .slice none 0 0, .slice none 0 0] 74)))
  have HO0 : Hid (Only r w ((w.alloc (.cells #[.int .i64 0, .slice none 0 0, .slice none 0 0, .slice none 0 0] 74)).alloc (.cells #[.int .i64 0, .slice none 0 0, .slice none 0 0, .slice none 0 0] 74))) := (Only.refl r w).below (alloc0 (alloc0 (Below.refl _ w) _) _)
  have Hpx0 := hidP px0
  have Hpr0 := hidP pr0
  clear px0 pr0 h hfar hrw
  go_enter Tryz.func53, Tryz.ntmps53
  go_wp2_with fail
  refine (readNum_any r A cap l i hl _ HC0.out).mono ?_
  intro e w1 h1
  cases hx1 : getN l i with
  | none =>
    have hN : getGr rows.toNat l i = none := by simp [getGr, hx1]
    rw [hx1] at h1
    obtain ⟨o1, t, v, rfl⟩ := h1
    refine ⟨rfl, ?_⟩
    rw [hN]
    exact ⟨only_trans HO0.out o1, t, v, rfl⟩
  | some x =>
  obtain ⟨n1, c1⟩ := x
  rw [hx1] at h1
  obtain ⟨o1, h1, v, rfl, rfl⟩ := h1
  have hle1 := getN_le hx1
  have p1 : Blk w1 (w.heap.size + 1) 74 #[.int .i64 0, .slice none 0 0, .slice none 0 0, .slice none 0 0] := Hpx0.out.only o1 (by omega)
  have g1 := Hpr0.out.only o1 (by omega)
  have d1 : w1.cell? ⟨w.heap.size + 1, 0, none⟩ = some (.int .i64 0) := p1.cell (i := 0) rfl
  have f1 := p1.thaw 0
  have q1' := p1.lt
  have Hpx1 : Hid (Blk (w1.setCell ⟨w.heap.size + 1, 0, none⟩ (.int .i64 (n1 : Int))) (w.heap.size + 1) 74 #[.int .i64 (n1 : Int), .slice none 0 0, .slice none 0 0, .slice none 0 0]) := hidP (p1.setAt 0 (.int .i64 (n1 : Int)))
  have Hpr1 := hidP (g1.other (show w.heap.size ≠ w.heap.size + 1 by omega) 0 (.int .i64 (n1 : Int)))
  have HC1 := hidP (h1.offp (Offp.of_only ((Only.refl (w.heap.size + 1) w1).set 0 (.int .i64 (n1 : Int)))) (by show r ≠ _; omega) Hfar.out)
  have HO1 := hidP (only_offp (only_trans HO0.out o1) (Offp.of_only ((Only.refl (w.heap.size + 1) w1).set 0 (.int .i64 (n1 : Int)))) (fun x e => by subst e; omega))
  clear o1 h1 p1 g1 HC0 HO0 Hpx0 Hpr0
  go_wp2_with fail
  refine (readNum_any r A cap l (c1 : Int) hl _ HC1.out).mono ?_
  intro e w2 h2
  cases hx2 : getN l (c1 : Int) with
  | none =>
    have hN : getGr rows.toNat l i = none := by simp [getGr, hx1, hx2]
    rw [hx2] at h2
    obtain ⟨o2, t, v, rfl⟩ := h2
    refine ⟨rfl, ?_⟩
    rw [hN]
    exact ⟨only_trans HO1.out o2, t, v, rfl⟩
  | some x =>
  obtain ⟨n2, c2⟩ := x
  rw [hx2] at h2
  obtain ⟨o2, h2, v, rfl, rfl⟩ := h2
  have hle2 := getN_le hx2
  have hle2a := hle2.1
  have G0 : Hid (GW w w2 r A cap l c2 (n1 : Int) none 0 [] none 0 []) := ⟨h2, only_trans HO1.out o2, Hpx1.out.only o2 (by omega), Hpr1.out.only o2 (by omega), World.ownsRow_nil _ _ _ _, World.ownsRow_nil _ _ _ _, fun x e => by simp [Value.ownBlock] at e, hr, Hla.out⟩
  have hN : Hid (getGr rows.toNat l i = (match getMany (getPr l) n2 c2 with | none => none | some (ps, c3) => match getMany (getIn l) rows.toNat c3 with | none => none | some (os, c4) => some (⟨(n1 : Int), ps.map Prod.fst, ps.map Prod.snd, os⟩, c4))) := hidP (by simp [getGr, hx1, hx2])
  clear o2 h2 HC1 HO1 Hpx1 Hpr1 d1 f1 q1' hx1 hx2
  go_wp2
  go_loopw [11] (fun j W => ∃ (k c d1 d2 : Nat) (a1 a2 : Option Addr) (ps : List (Int × Int)), j = .int .i64 (k : Int) ∧ k ≤ n2 ∧ Hid (ps.length = k ∧ (k = 0 ∨ k ≤ c ∧ c ≤ l.length)) ∧ Hid (GW w W r A cap l c (n1 : Int) a1 d1 (ps.map Prod.fst) a2 d2 (ps.map Prod.snd)) ∧ Hid (getMany (getPr l) n2 c2 = addTo ps (getMany (getPr l) (n2 - k) c))) (fun j _ => n2 - (intOf j).toNat)
  case atStart => exact ⟨0, c2, 0, 0, none, none, [], rfl, by omega, ⟨rfl, .inl rfl⟩, G0, by show _ = _; simp [addTo]⟩
  case round =>
    clear G0
    obtain ⟨k, c, d1, d2, a1, a2, ps, rfl, hk, hkc, G, hm⟩ := hrel
    by_cases hlt : k < n2
    · have hlt' : (k : Int) < (n2 : Int) := by omega
      obtain ⟨m, hm1⟩ : ∃ m, n2 - k = m + 1 := ⟨n2 - k - 1, by omega⟩
      have hm2 : Hid (n2 - (k + 1) = m) := by show _ = _; omega
      rw [hm1] at hm
      clear hm1
      have hln1 : (ps.map Prod.fst).length ≤ 2000000 := by have := hkc.out; simp; omega
      have hln2 : (ps.map Prod.snd).length ≤ 2000000 := by have := hkc.out; simp; omega
      obtain ⟨ms, hms⟩ : ∃ ms, Hid (ms = ps.map Prod.fst) := ⟨_, rfl⟩
      obtain ⟨bs, hbs⟩ : ∃ bs, Hid (bs = ps.map Prod.snd) := ⟨_, rfl⟩
      rw [← hms.out, ← hbs.out] at G
      rw [← hms.out] at hln1
      rw [← hbs.out] at hln2
      have S1 : (fun (W : World) => W.cell? ⟨w.heap.size + 1, 1, none⟩ = some (.slice a1 (List.length ms) d1)) wr.drew := G.out.drew.box.cell (i := 1) rfl
      have GD1 := hidP G.out.drew
      clear G
      go_wp2_with fail
      have hH := S1
      refine region_upTo 7 (fun (W : World) => W.cell? ⟨w.heap.size + 1, 1, none⟩ = some (.slice a1 (List.length ms) d1)) (by kernel_rfl) ?_
      refine' upTo_taken (i := 0) (v := _) (by kernel_rfl) rfl (by kernel_rfl) (by decide) (by kernel_rfl) (by kernel_rfl) (fun _ _ _ h => h) (Or.inl ⟨by rfl, ?hy1⟩) (by assumption) ?rest1
      case hy1 => (intro w hSw; (try dsimp only at hSw); go_simp <;> with_reducible rfl)
      try simp only [Act.put, List.setIfInBounds_toArray, List.set_cons_zero, List.set_cons_succ, List.getElem_toArray, List.getElem_cons_succ, List.getElem_cons_zero]
      refine' upTo_taken (i := 1) (v := _) (by kernel_rfl) rfl (by kernel_rfl) (by decide) (by kernel_rfl) (by kernel_rfl) (fun _ _ _ h => h) (Or.inl ⟨by rfl, ?hy2⟩) (by assumption) ?rest2
      case hy2 => (intro w hSw; (try dsimp only at hSw); go_simp <;> with_reducible rfl)
      try simp only [Act.put, List.setIfInBounds_toArray, List.set_cons_zero, List.set_cons_succ, List.getElem_toArray, List.getElem_cons_succ, List.getElem_cons_zero]
      refine' upTo_taken (i := 2) (v := _) (by kernel_rfl) rfl (by kernel_rfl) (by decide) (by kernel_rfl) (by kernel_rfl) (fun _ _ _ h => h) (Or.inl ⟨by rfl, ?hy3⟩) (by assumption) ?rest3
      case hy3 => (intro w hSw; (try dsimp only at hSw); go_simp <;> with_reducible rfl)
      try simp only [Act.put, List.setIfInBounds_toArray, List.set_cons_zero, List.set_cons_succ, List.getElem_toArray, List.getElem_cons_succ, List.getElem_cons_zero]
      refine upTo_next (i := 3) (by kernel_rfl) rfl (fun K hK => ?_)
      simp only [List.getElem_toArray, List.getElem_cons_succ, List.getElem_cons_zero]
      go_simp
      refine (readNum_any r A cap l (c : Int) hl _ GD1.out.rd).mono ?_
      intro e v1 h1
      cases hy1 : getN l (c : Int) with
      | none =>
        rw [hy1] at h1
        obtain ⟨o1, t, v, rfl⟩ := h1
        refine ⟨rfl, ?_⟩
        rw [hN.out, hm.out, many_none ps (by simp [getPr, hy1])]
        exact ⟨only_trans GD1.out.only o1, t, v, rfl⟩
      | some x =>
      obtain ⟨x1, e1⟩ := x
      rw [hy1] at h1
      obtain ⟨o1, h1, v, rfl, rfl⟩ := h1
      have hge1 := getN_le hy1
      have GE1 := hidP (GD1.out.step o1 h1)
      obtain ⟨a1', d1', X1, hrun1, hbx1, GF1⟩ := GE1.out.app1 (x1 : Int) hln1
      have T1 : (fun (W : World) => W.cell? ⟨w.heap.size + 1, 1, none⟩ = some (.slice a1 (List.length ms) d1)) v1 := GE1.out.box.cell (i := 1) rfl
      have TA1 : (fun (W : World) => W.cell? ⟨w.heap.size + 1, 1, none⟩ = some (.slice a1 (List.length ms) d1)) (v1.alloc (.cells #[.int .i64 (x1 : Int)] 3)) := (GE1.out.box.alloc _).cell (i := 1) rfl
      have TB1 : (fun (W : World) => W.cell? ⟨w.heap.size + 1, 1, none⟩ = some (.slice a1 (List.length ms) d1)) X1 := hbx1.cell (i := 1) rfl
      have ff1 := hbx1.thaw 1
      have hrun1' := hidP hrun1
      refine hK.out _ _ (Or.inr T1) ?_
      clear hK K
      try simp only [Act.put, List.setIfInBounds_toArray, List.set_cons_zero, List.set_cons_succ, List.getElem_toArray, List.getElem_cons_succ, List.getElem_cons_zero]
      refine upTo_next (i := 4) (by kernel_rfl) rfl (fun K hK => ?_)
      simp only [List.getElem_toArray, List.getElem_cons_succ, List.getElem_cons_zero]
      go_simp
      refine hK.out _ _ (Or.inr TA1) ?_
      clear hK K
      try simp only [Act.put, List.setIfInBounds_toArray, List.set_cons_zero, List.set_cons_succ, List.getElem_toArray, List.getElem_cons_succ, List.getElem_cons_zero]
      refine upTo_next (i := 5) (by kernel_rfl) rfl (fun K hK => ?_)
      simp only [List.getElem_toArray, List.getElem_cons_succ, List.getElem_cons_zero]
      rw [if_pos (by rfl)]; refine wp_append_is _ _ _ (by rfl) _ _ _ (by rfl) (by rfl) hrun1'.out ?_
      refine hK.out _ _ (Or.inr TB1) ?_
      clear hK K
      try simp only [Act.put, List.setIfInBounds_toArray, List.set_cons_zero, List.set_cons_succ, List.getElem_toArray, List.getElem_cons_succ, List.getElem_cons_zero]
      refine' upTo_taken (i := 6) (v := _) (by kernel_rfl) rfl (by kernel_rfl) (by decide) (by kernel_rfl) (by kernel_rfl) (fun _ _ _ h => h) (Or.inl ⟨by rfl, ?hy4⟩) (by assumption) ?rest4
      case hy4 => (intro w hSw; (try dsimp only at hSw); go_simp <;> with_reducible rfl)
      try simp only [Act.put, List.setIfInBounds_toArray, List.set_cons_zero, List.set_cons_succ, List.getElem_toArray, List.getElem_cons_succ, List.getElem_cons_zero]
      refine upTo_next (i := 7) (by kernel_rfl) rfl (fun K hK => ?_)
      simp only [List.getElem_toArray, List.getElem_cons_succ, List.getElem_cons_zero]
      go_simp
      refine hK.out _ _ (Or.inl rfl) ?_
      clear hK K
      try simp only [Act.put, List.setIfInBounds_toArray, List.set_cons_zero, List.set_cons_succ, List.getElem_toArray, List.getElem_cons_succ, List.getElem_cons_zero]
      refine upTo_done (by kernel_rfl) ?_ _
      have G2 := hidP GF1
      clear GF1 GE1 GD1 T1 TA1 TB1 S1 hH o1 h1 hrun1 hrun1' hbx1 ff1
      generalize X1.setCell ⟨w.heap.size + 1, 1, none⟩ (.slice a1' (ms.length + 1) d1') = Y1 at *
      have S2 : (fun (W : World) => W.cell? ⟨w.heap.size + 1, 2, none⟩ = some (.slice a2 (List.length bs) d2)) Y1.drew := G2.out.drew.box.cell (i := 2) rfl
      have GD2 := hidP G2.out.drew
      clear G2
      go_wp2_with fail
      have hH := S2
      refine region_upTo 7 (fun (W : World) => W.cell? ⟨w.heap.size + 1, 2, none⟩ = some (.slice a2 (List.length bs) d2)) (by kernel_rfl) ?_
      refine' upTo_taken (i := 0) (v := _) (by kernel_rfl) rfl (by kernel_rfl) (by decide) (by kernel_rfl) (by kernel_rfl) (fun _ _ _ h => h) (Or.inl ⟨by rfl, ?hy5⟩) (by assumption) ?rest5
      case hy5 => (intro w hSw; (try dsimp only at hSw); go_simp <;> with_reducible rfl)
      try simp only [Act.put, List.setIfInBounds_toArray, List.set_cons_zero, List.set_cons_succ, List.getElem_toArray, List.getElem_cons_succ, List.getElem_cons_zero]
      refine' upTo_taken (i := 1) (v := _) (by kernel_rfl) rfl (by kernel_rfl) (by decide) (by kernel_rfl) (by kernel_rfl) (fun _ _ _ h => h) (Or.inl ⟨by rfl, ?hy6⟩) (by assumption) ?rest6
      case hy6 => (intro w hSw; (try dsimp only at hSw); go_simp <;> with_reducible rfl)
      try simp only [Act.put, List.setIfInBounds_toArray, List.set_cons_zero, List.set_cons_succ, List.getElem_toArray, List.getElem_cons_succ, List.getElem_cons_zero]
      refine' upTo_taken (i := 2) (v := _) (by kernel_rfl) rfl (by kernel_rfl) (by decide) (by kernel_rfl) (by kernel_rfl) (fun _ _ _ h => h) (Or.inl ⟨by rfl, ?hy7⟩) (by assumption) ?rest7
      case hy7 => (intro w hSw; (try dsimp only at hSw); go_simp <;> with_reducible rfl)
      try simp only [Act.put, List.setIfInBounds_toArray, List.set_cons_zero, List.set_cons_succ, List.getElem_toArray, List.getElem_cons_succ, List.getElem_cons_zero]
      refine upTo_next (i := 3) (by kernel_rfl) rfl (fun K hK => ?_)
      simp only [List.getElem_toArray, List.getElem_cons_succ, List.getElem_cons_zero]
      go_simp
      refine (readNum_any r A cap l (e1 : Int) hl _ GD2.out.rd).mono ?_
      intro e v2 h2
      cases hy2 : getN l (e1 : Int) with
      | none =>
        rw [hy2] at h2
        obtain ⟨o2, t, v, rfl⟩ := h2
        refine ⟨rfl, ?_⟩
        rw [hN.out, hm.out, many_none ps (by simp [getPr, hy1, hy2])]
        exact ⟨only_trans GD2.out.only o2, t, v, rfl⟩
      | some x =>
      obtain ⟨x2, e2⟩ := x
      rw [hy2] at h2
      obtain ⟨o2, h2, v, rfl, rfl⟩ := h2
      have hge2 := getN_le hy2
      have GE2 := hidP (GD2.out.step o2 h2)
      obtain ⟨a2', d2', X2, hrun2, hbx2, GF2⟩ := GE2.out.app2 (x2 : Int) hln2
      have T2 : (fun (W : World) => W.cell? ⟨w.heap.size + 1, 2, none⟩ = some (.slice a2 (List.length bs) d2)) v2 := GE2.out.box.cell (i := 2) rfl
      have TA2 : (fun (W : World) => W.cell? ⟨w.heap.size + 1, 2, none⟩ = some (.slice a2 (List.length bs) d2)) (v2.alloc (.cells #[.int .i64 (x2 : Int)] 3)) := (GE2.out.box.alloc _).cell (i := 2) rfl
      have TB2 : (fun (W : World) => W.cell? ⟨w.heap.size + 1, 2, none⟩ = some (.slice a2 (List.length bs) d2)) X2 := hbx2.cell (i := 2) rfl
      have ff2 := hbx2.thaw 2
      have hrun2' := hidP hrun2
      refine hK.out _ _ (Or.inr T2) ?_
      clear hK K
      try simp only [Act.put, List.setIfInBounds_toArray, List.set_cons_zero, List.set_cons_succ, List.getElem_toArray, List.getElem_cons_succ, List.getElem_cons_zero]
      refine upTo_next (i := 4) (by kernel_rfl) rfl (fun K hK => ?_)
      simp only [List.getElem_toArray, List.getElem_cons_succ, List.getElem_cons_zero]
      go_simp
      refine hK.out _ _ (Or.inr TA2) ?_
      clear hK K
      try simp only [Act.put, List.setIfInBounds_toArray, List.set_cons_zero, List.set_cons_succ, List.getElem_toArray, List.getElem_cons_succ, List.getElem_cons_zero]
      refine upTo_next (i := 5) (by kernel_rfl) rfl (fun K hK => ?_)
      simp only [List.getElem_toArray, List.getElem_cons_succ, List.getElem_cons_zero]
      rw [if_pos (by rfl)]; refine wp_append_is _ _ _ (by rfl) _ _ _ (by rfl) (by rfl) hrun2'.out ?_
      refine hK.out _ _ (Or.inr TB2) ?_
      clear hK K
      try simp only [Act.put, List.setIfInBounds_toArray, List.set_cons_zero, List.set_cons_succ, List.getElem_toArray, List.getElem_cons_succ, List.getElem_cons_zero]
      refine' upTo_taken (i := 6) (v := _) (by kernel_rfl) rfl (by kernel_rfl) (by decide) (by kernel_rfl) (by kernel_rfl) (fun _ _ _ h => h) (Or.inl ⟨by rfl, ?hy8⟩) (by assumption) ?rest8
      case hy8 => (intro w hSw; (try dsimp only at hSw); go_simp <;> with_reducible rfl)
      try simp only [Act.put, List.setIfInBounds_toArray, List.set_cons_zero, List.set_cons_succ, List.getElem_toArray, List.getElem_cons_succ, List.getElem_cons_zero]
      refine upTo_next (i := 7) (by kernel_rfl) rfl (fun K hK => ?_)
      simp only [List.getElem_toArray, List.getElem_cons_succ, List.getElem_cons_zero]
      go_simp
      refine hK.out _ _ (Or.inl rfl) ?_
      clear hK K
      try simp only [Act.put, List.setIfInBounds_toArray, List.set_cons_zero, List.set_cons_succ, List.getElem_toArray, List.getElem_cons_succ, List.getElem_cons_zero]
      refine upTo_done (by kernel_rfl) ?_ _
      have hxx : getPr l (c : Int) = some (((x1 : Int), (x2 : Int)), e2) := by simp [getPr, hy1, hy2]
      have hm' := hidP (hm.out.trans (many_some ps hxx))
      have hkc' : Hid ((ps ++ [((x1 : Int), (x2 : Int))]).length = k + 1 ∧ (k + 1 = 0 ∨ k + 1 ≤ e2 ∧ e2 ≤ l.length)) := by
        show _ ∧ _
        have := hkc.out
        exact ⟨by simp; omega, .inr (by omega)⟩
      have GF := GF2
      rw [hms.out, hbs.out] at GF
      have GF' : Hid (GW w (X2.setCell ⟨w.heap.size + 1, 2, none⟩ (.slice a2' (bs.length + 1) d2')) r A cap l e2 (n1 : Int) a1' d1' ((ps ++ [((x1 : Int), (x2 : Int))]).map Prod.fst) a2' d2' ((ps ++ [((x1 : Int), (x2 : Int))]).map Prod.snd)) := by
        show GW _ _ _ _ _ _ _ _ _ _ _ _ _ _
        rw [List.map_append, List.map_append, hbs.out]
        exact GF
      clear GF GF2 GE2 GD2 T2 TA2 TB2 S2 hH o2 h2 hrun2 hrun2' hbx2 ff2
      go_wp2
      exact ⟨⟨k + 1, e2, d1', d2', a1', a2', ps ++ [((x1 : Int), (x2 : Int))], by go_num, by omega, hkc', GF', by show _ = _; rw [hm2.out]; exact hm'.out⟩, by simp [intOf]; omega⟩
    · obtain rfl : k = n2 := by omega
      have hm' : Hid (getMany (getPr l) k c2 = some (ps, c)) := by
        show _ = _
        rw [hm.out, Nat.sub_self, many_end]
      obtain ⟨ms, hms⟩ : ∃ ms, Hid (ms = ps.map Prod.fst) := ⟨_, rfl⟩
      obtain ⟨bs, hbs⟩ : ∃ bs, Hid (bs = ps.map Prod.snd) := ⟨_, rfl⟩
      rw [← hms.out, ← hbs.out] at G
      clear hm
      go_wp2_with fail
      refine (readManyZ_any rows Hrw.out r A cap l hl c _ G.out.rd).mono ?_
      intro e w3 h3
      cases hx4 : getMany (getIn l) rows.toNat c with
      | none =>
        have hNz : getGr rows.toNat l i = none := by rw [hN.out, hm'.out]; simp [hx4]
        rw [hx4] at h3
        obtain ⟨o3, t, v, rfl⟩ := h3
        refine ⟨rfl, ?_⟩
        rw [hNz]
        exact ⟨only_trans G.out.only o3, t, v, rfl⟩
      | some x =>
      obtain ⟨os, c4⟩ := x
      have hNz : Hid (getGr rows.toNat l i = some (⟨(n1 : Int), ms, bs, os⟩, c4)) := by
        show _ = _
        rw [hN.out, hm'.out, hms.out, hbs.out]
        simp [hx4]
      rw [hx4] at h3
      obtain ⟨o3, h3, v, rfl, a3, d3, rfl, hown3⟩ := h3
      have hbx := G.out.box.lt
      have G3 := G.out.step o3 h3
      have hd1 : Hid (∀ y, (Value.slice a1 ms.length d1).ownBlock = some y → (Value.slice a3 os.length d3).ownBlock ≠ some y) := fun y e e' => by have := (G.out.o1.lt y e).2; have := (hown3.lt y e').1; omega
      have hd2 : Hid (∀ y, (Value.slice a2 bs.length d2).ownBlock = some y → (Value.slice a3 os.length d3).ownBlock ≠ some y) := fun y e e' => by have := (G.out.o2.lt y e).2; have := (hown3.lt y e').1; omega
      have hd0 : Hid (∀ y, (Value.slice a1 ms.length d1).ownBlock = some y → (Value.slice a2 bs.length d2).ownBlock ≠ some y) := G3.dis
      have p3 := G3.box
      have g3 := G3.res
      have t3 : w3.cell? ⟨w.heap.size + 1, 3, none⟩ = some (.slice none 0 0) := p3.cell (i := 3) rfl
      have f3 := p3.thaw 3
      have q3 := p3.lt
      have e0 : w3.cell? ⟨w.heap.size + 1, 0, none⟩ = some (Value.int .i64 (n1 : Int)) := p3.cell (i := 0) rfl
      have e1 : w3.cell? ⟨w.heap.size + 1, 1, none⟩ = some (Value.slice a1 (List.length ms) d1) := p3.cell (i := 1) rfl
      have e2 : w3.cell? ⟨w.heap.size + 1, 2, none⟩ = some (Value.slice a2 (List.length bs) d2) := p3.cell (i := 2) rfl
      have r0 : w3.cell? ⟨w.heap.size, 0, none⟩ = some (.int .i64 0) := g3.cell (i := 0) rfl
      have z0 := g3.thaw 0
      have r1 : w3.cell? ⟨w.heap.size, 1, none⟩ = some (.slice none 0 0) := g3.cell (i := 1) rfl
      have z1 := g3.thaw 1
      have r2 : w3.cell? ⟨w.heap.size, 2, none⟩ = some (.slice none 0 0) := g3.cell (i := 2) rfl
      have z2 := g3.thaw 2
      have r3 : w3.cell? ⟨w.heap.size, 3, none⟩ = some (.slice none 0 0) := g3.cell (i := 3) rfl
      have z3 := g3.thaw 3
      have qr := g3.lt
      have L1 := owns_only' (G3.o1) ((Only.refl (w.heap.size + 1) _).set 3 (Value.slice a3 (List.length os) d3)) (by omega)
      have L2 := owns_only' (G3.o2) ((Only.refl (w.heap.size + 1) _).set 3 (Value.slice a3 (List.length os) d3)) (by omega)
      have L3 := owns_only' (owns_mono hown3 (C := w.heap.size + 2) (Nat.succ_le_of_lt hbx)) ((Only.refl (w.heap.size + 1) _).set 3 (Value.slice a3 (List.length os) d3)) (by omega)
      have HC4 := h3.offp (Offp.of_only ((Only.refl (w.heap.size + 1) w3).set 3 (Value.slice a3 (List.length os) d3))) (by show r ≠ _; omega) Hfar.out
      have HO4 := only_offp G3.only (Offp.of_only ((Only.refl (w.heap.size + 1) w3).set 3 (Value.slice a3 (List.length os) d3))) (fun x e => by subst e; omega)
      have HOz := hidP (only_offp (only_offp (only_offp (only_offp (HO4) (Offp.of_only ((Only.refl w.heap.size _).set 0 (Value.int .i64 (n1 : Int)))) (fun x e => by subst e; exact Nat.le_refl _)) (Offp.of_only ((Only.refl w.heap.size _).set 1 (Value.slice a1 (List.length ms) d1))) (fun x e => by subst e; exact Nat.le_refl _)) (Offp.of_only ((Only.refl w.heap.size _).set 2 (Value.slice a2 (List.length bs) d2))) (fun x e => by subst e; exact Nat.le_refl _)) (Offp.of_only ((Only.refl w.heap.size _).set 3 (Value.slice a3 (List.length os) d3))) (fun x e => by subst e; exact Nat.le_refl _))
      have HCz := hidP (Rd.offp (Rd.offp (Rd.offp (Rd.offp (HC4) (Offp.of_only ((Only.refl w.heap.size _).set 0 (Value.int .i64 (n1 : Int)))) (by show r ≠ _; omega) Hfar0.out) (Offp.of_only ((Only.refl w.heap.size _).set 1 (Value.slice a1 (List.length ms) d1))) (by show r ≠ _; omega) Hfar0.out) (Offp.of_only ((Only.refl w.heap.size _).set 2 (Value.slice a2 (List.length bs) d2))) (by show r ≠ _; omega) Hfar0.out) (Offp.of_only ((Only.refl w.heap.size _).set 3 (Value.slice a3 (List.length os) d3))) (by show r ≠ _; omega) Hfar0.out)
      have M1 := hidP (owns_only' (owns_only' (owns_only' (owns_only' (L1) ((Only.refl (w.heap.size) _).set 0 (Value.int .i64 (n1 : Int))) (by omega)) ((Only.refl (w.heap.size) _).set 1 (Value.slice a1 (List.length ms) d1)) (by omega)) ((Only.refl (w.heap.size) _).set 2 (Value.slice a2 (List.length bs) d2)) (by omega)) ((Only.refl (w.heap.size) _).set 3 (Value.slice a3 (List.length os) d3)) (by omega))
      have M2 := hidP (owns_only' (owns_only' (owns_only' (owns_only' (L2) ((Only.refl (w.heap.size) _).set 0 (Value.int .i64 (n1 : Int))) (by omega)) ((Only.refl (w.heap.size) _).set 1 (Value.slice a1 (List.length ms) d1)) (by omega)) ((Only.refl (w.heap.size) _).set 2 (Value.slice a2 (List.length bs) d2)) (by omega)) ((Only.refl (w.heap.size) _).set 3 (Value.slice a3 (List.length os) d3)) (by omega))
      have M3 := hidP (owns_only' (owns_only' (owns_only' (owns_only' (L3) ((Only.refl (w.heap.size) _).set 0 (Value.int .i64 (n1 : Int))) (by omega)) ((Only.refl (w.heap.size) _).set 1 (Value.slice a1 (List.length ms) d1)) (by omega)) ((Only.refl (w.heap.size) _).set 2 (Value.slice a2 (List.length bs) d2)) (by omega)) ((Only.refl (w.heap.size) _).set 3 (Value.slice a3 (List.length os) d3)) (by omega))
      clear HC4 HO4 L1 L2 L3 p3 g3 G3 hown3 h3 o3 G hx4
      go_wp2
      refine bodyPost_ret (v := .agg #[Value.int .i64 (n1 : Int), Value.slice a1 (List.length ms) d1, Value.slice a2 (List.length bs) d2, Value.slice a3 (List.length os) d3]) (by simp [results, Tryz.results53, go_sem, r0, r1, r2, r3]) rfl ?_
      rw [hNz.out]
      refine ⟨HOz.out, HCz.out, _, rfl, a1, d1, a2, d2, a3, d3, rfl, _, _, _, fun y hy => ?_, fun y hy => ?_, fun y hy => ?_, hd0.out, hd1.out, hd2.out, owns_own M1.out, owns_own M2.out, owns_own M3.out⟩
      · have := M1.out.lt y hy; exact ⟨by omega, this.2⟩
      · have := M2.out.lt y hy; exact ⟨by omega, this.2⟩
      · have := M3.out.lt y hy; exact ⟨by omega, this.2⟩
end Go.Proofs.YtjjbbkmedpfenaaGreat.Gen
