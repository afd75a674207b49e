/-
  The frame round a note's body, read by the program's reader: its length, the body, its sum. Condition: at most 1048576 bytes.
-/
import Derived.Test.YtfbbifdfjjkknaaDoorRMg
import Derived.Test.YtfbbifdfjjkknaaDoorBytW
import Derived.Test.YtfbbifdfjjkknaaDoorSum
namespace Go.Proofs.YtfbbifdfjjkknaaDoor.Gen
open Go.ChangeShapes Go.WideShapes Go.ChangeAt Go.RowKit Go.Joins Go.Deep Base
set_option linter.unusedVariables false
set_option linter.unusedSimpArgs false

/-- What k bytes from place c on make, the low ones first. -/
def part (l : List UInt8) (c : Nat) : Nat → Nat
  | 0 => 0
  | k + 1 => part l c k + (l.getD (c + k) 0).toNat * 256 ^ k
def getS4 (l : List UInt8) (c : Nat) : Option (Nat × Nat) := if c + 4 ≤ l.length then some (part l c 4, c + 4) else none
theorem part_lt (l : List UInt8) (c : Nat) : ∀ k, part l c k < 256 ^ k
  | 0 => by simp [part]
  | k + 1 => by
    have h := part_lt l c k
    have hd : (l.getD (c + k) 0).toNat ≤ 255 := by have := (l.getD (c + k) 0).toNat_lt; omega
    have h2 := Nat.mul_le_mul_right (256 ^ k) hd
    simp only [part]
    rw [Nat.pow_succ]
    omega

set_option maxRecDepth 100000 in
set_option maxHeartbeats 4000000 in
theorem rsum_any (r : Nat) (A : Option Addr) (cap : Nat) (l : List UInt8) (c : Nat) (hl : l.length ≤ 1048576) (w : World) (h : Rd w r A cap l (c : Int)) :
    Calls Tryd.prog 42 #[.pointer (some ⟨r, 0, none⟩)] w fun e w' => Reads isNum r A cap l w e w' (getS4 l c) := by
  have HR := hidP h
  clear h
  go_enter Tryd.func42, Tryd.ntmps42
  go_wp2
  go_loopw [3, 4, 5] (fun v3 v4 v5 W => ∃ (k : Nat), v3 = .int .i64 (part l c k : Int) ∧ v4 = .int .i64 ((256 ^ k : Nat) : Int) ∧ v5 = .int .i64 (k : Int) ∧ k ≤ 4 ∧ Hid (k = 0 ∨ c + k ≤ l.length) ∧ Hid (Only r w W) ∧ Hid (Rd W r A cap l ((c + k : Nat) : Int))) (fun _ _ v5 _ => 4 - (intOf v5).toNat)
  case atStart => exact ⟨0, rfl, rfl, rfl, by omega, .inl rfl, Only.refl _ _, HR⟩
  case round =>
    obtain ⟨k, rfl, rfl, rfl, hk, hck, hO, hR⟩ := hrel
    by_cases h4 : k < 4
    · have h4' : (k : Int) < 4 := by omega
      by_cases hp : c + k < l.length
      · have hpl := part_lt l c k
        have hst : Hid (part l c (k + 1) = part l c k + (l[c + k]).toNat * 256 ^ k) := by show _ = _; simp [part, List.getD_eq_getElem?_getD, hp]
        have hck' : Hid (k + 1 = 0 ∨ c + (k + 1) ≤ l.length) := by show _ ∨ _; omega
        have hd2 : (l[c + k]).toNat < 256 := (l[c + k]).toNat_lt
        go_wp2_with fail
        refine (next_any r A cap l (c + k) hp hl _ hR.out).mono ?_
        rintro e w1 ⟨rfl, o1, r1⟩
        generalize (l[c + k]).toNat = d at *
        have hO1 := hidP (only_trans hO.out o1)
        have hR1 : Hid (Rd w1 r A cap l ((c + (k + 1) : Nat) : Int)) := r1
        clear o1 r1 hR hO
        generalize part l c k = N at *
        obtain rfl | rfl | rfl | rfl : k = 0 ∨ k = 1 ∨ k = 2 ∨ k = 3 := by omega
        · have hst1 : part l c 1 = N + d * 1 := hst.out
          have hck1 : Hid (1 = 0 ∨ c + 1 ≤ l.length) := hck'
          have Hst := hidP hst1
          simp only [Nat.reducePow] at hpl ⊢
          clear hst hst1
          go_wp2
          refine ⟨⟨1, ?_, ?_, rfl, by omega, hck1, hO1, hR1⟩, by simp [intOf]⟩
          · show Value.int .i64 _ = Value.int .i64 _
            congr 1
            have := Hst.out
            omega
          · rfl
        · have hst1 : part l c 2 = N + d * 256 := hst.out
          have hck1 : Hid (2 = 0 ∨ c + 2 ≤ l.length) := hck'
          have Hst := hidP hst1
          simp only [Nat.reducePow] at hpl ⊢
          clear hst hst1
          go_wp2
          refine ⟨⟨2, ?_, ?_, rfl, by omega, hck1, hO1, hR1⟩, by simp [intOf]⟩
          · show Value.int .i64 _ = Value.int .i64 _
            congr 1
            have := Hst.out
            omega
          · rfl
        · have hst1 : part l c 3 = N + d * 65536 := hst.out
          have hck1 : Hid (3 = 0 ∨ c + 3 ≤ l.length) := hck'
          have Hst := hidP hst1
          simp only [Nat.reducePow] at hpl ⊢
          clear hst hst1
          go_wp2
          refine ⟨⟨3, ?_, ?_, rfl, by omega, hck1, hO1, hR1⟩, by simp [intOf]⟩
          · show Value.int .i64 _ = Value.int .i64 _
            congr 1
            have := Hst.out
            omega
          · rfl
        · have hst1 : part l c 4 = N + d * 16777216 := hst.out
          have hck1 : Hid (4 = 0 ∨ c + 4 ≤ l.length) := hck'
          have Hst := hidP hst1
          simp only [Nat.reducePow] at hpl ⊢
          clear hst hst1
          go_wp2
          refine ⟨⟨4, ?_, ?_, rfl, by omega, hck1, hO1, hR1⟩, by simp [intOf]⟩
          · show Value.int .i64 _ = Value.int .i64 _
            congr 1
            have := Hst.out
            omega
          · rfl
      · have hN : Hid (getS4 l c = none) := by show _ = _; unfold getS4; rw [if_neg (by omega)]
        go_wp2_with fail
        refine (next_none r A cap l _ (by omega) hl _ hR.out).mono ?_
        rintro e w1 ⟨rfl, o1⟩
        refine ⟨rfl, ?_⟩
        rw [hN.out]
        exact ⟨only_trans hO.out o1, _, _, rfl⟩
    · obtain rfl : k = 4 := by omega
      have hN : Hid (getS4 l c = some (part l c 4, c + 4)) := by show _ = _; unfold getS4; rw [if_pos (by have := hck.out; omega)]
      generalize part l c 4 = N at *
      go_wp2
      go_ret
      rw [hN.out]
      exact ⟨hO.out, hR.out, _, rfl, rfl⟩

/-- What is framed, and the place behind it. -/
def getFr (l : List UInt8) (i : Int) : Option (List UInt8 × Nat) := match getT l i with
  | none => none
  | some (s, c) => match getS4 l c with
    | none => none
    | some (n, d) => if n = sumN s.data.toList then some (s.data.toList, d) else none
/-- Bytes in a block from B on. -/
def isBy (B : Nat) (L : List UInt8) (v : Value) (W : World) : Prop := ∃ b c, v = .slice (some ⟨b, 0, none⟩) L.length c ∧ B ≤ b ∧ b < W.heap.size ∧ In W b 0 L ∧ L.length ≤ c ∧ c ≤ 9223372036854775807
theorem isBy.only {B r : Nat} {L : List UInt8} {v : Value} {W W' : World} (h : isBy B L v W) (g : Only r W W') (hr : r < B) : isBy B L v W' := by
  obtain ⟨b, c, e, h1, h2, h3, h4, h5⟩ := h
  exact ⟨b, c, e, h1, Nat.lt_of_lt_of_le h2 g.size, fun j u hu => (g.cell (p := ⟨b, 0 + j, none⟩) h2 (by show b ≠ r; omega)).trans (h3 j u hu), h4, h5⟩
theorem isBy.below {B : Nat} {L : List UInt8} {v : Value} {W W' : World} (h : isBy B L v W) (g : Below W.heap.size W W') : isBy B L v W' := by
  obtain ⟨b, c, e, h1, h2, h3, h4, h5⟩ := h
  exact ⟨b, c, e, h1, Nat.lt_of_lt_of_le h2 g.size, h3.below h2 g, h4, h5⟩
theorem getFr_le {l : List UInt8} {i : Int} {L : List UInt8} {c : Nat} (h : getFr l i = some (L, c)) : i < (c : Int) ∧ c ≤ l.length ∧ L.length ≤ l.length := by
  unfold getFr at h
  cases hx : getT l i with
  | none => simp [hx] at h
  | some p =>
  obtain ⟨s, c1⟩ := p
  have h1 := getT_le hx
  simp only [hx] at h
  unfold getS4 at h
  by_cases h4 : c1 + 4 ≤ l.length
  · rw [if_pos h4] at h
    simp only at h
    split at h
    · simp only [Option.some.injEq, Prod.mk.injEq] at h
      obtain ⟨rfl, rfl⟩ := h
      have e : s.data.toList.length = s.size := by rw [Array.length_toList]; rfl
      omega
    · cases h
  · rw [if_neg h4] at h
    cases h

set_option maxRecDepth 100000 in
set_option maxHeartbeats 4000000 in
theorem rframed_any (r : Nat) (A : Option Addr) (cap : Nat) (l : List UInt8) (i : Int) (hl : l.length ≤ 1048576) (hcap : l.length ≤ cap) (hcm : cap ≤ 9223372036854775807) (w : World) (h : Rd w r A cap l i) :
    Calls Tryd.prog 24 #[.pointer (some ⟨r, 0, none⟩)] w fun e w' => Reads (isBy w.heap.size) r A cap l w e w' (getFr l i) := by
  obtain ⟨hr, hfar⟩ := h.far'
  have HR := hidP h
  clear h
  go_enter Tryd.func24, Tryd.ntmps24
  go_wp2_with fail
  refine (readTxt_any r A cap l i hl hcap hcm _ HR.out).mono ?_
  intro e w1 h1
  cases hx : getT l i with
  | none =>
    have hN : getFr l i = none := by simp [getFr, hx]
    rw [hx] at h1
    obtain ⟨o1, t, v, rfl⟩ := h1
    refine ⟨rfl, ?_⟩
    rw [hN]
    exact ⟨o1, t, v, rfl⟩
  | some x =>
  obtain ⟨s, c⟩ := x
  rw [hx] at h1
  obtain ⟨o1, r1, v, rfl, rfl⟩ := h1
  have hle := getT_le hx
  have hcv := Go.Lib.run_convert_string_bytes (P := Tryd.prog) w1 9 22 5 s Tryd.underlying9 Tryd.underlying22 Tryd.underlying5
  have hbb := bytes_below w1 5 s
  have hat := bytes_at w1 5 s
  have hsz2 := Go.Lib.bytesWorld_size w1 5 s
  have hge := grownCap_ge w1 s.size 0 5
  have hgm := grownCap_le_maxLen w1 s.size 0 5 (by simp [maxLen]; omega)
  generalize Go.Lib.bytesWorld w1 5 s = w2 at *
  generalize grownCap w1 s.size 0 5 = gc at *
  have hlen : s.data.toList.length = s.size := by rw [Array.length_toList]; rfl
  have HB : Hid (isBy w.heap.size s.data.toList (.slice (some ⟨w1.heap.size, 0, none⟩) s.size gc) w2) := by
    refine ⟨w1.heap.size, gc, by rw [hlen], o1.size, by omega, ?_, by omega, by simpa [maxLen] using hgm⟩
    rcases hat with e | ⟨b, o, e, hb, hi⟩
    · rw [e]; exact fun j v hv => by simp [flat] at hv
    · cases e; exact hi
  have HO2 := hidP (o1.below hbb)
  have HR2 := hidP (r1.below hbb)
  have hS : Hid (getFr l i = match getS4 l c with | none => none | some (n, d) => if n = sumN s.data.toList then some (s.data.toList, d) else none) := by show _ = _; simp [getFr, hx]
  clear o1 r1 hat hbb HR hge hgm hx
  go_wp2_with fail
  refine (rsum_any r A cap l c hl _ HR2.out).mono ?_
  intro e w3 h3
  cases hx : getS4 l c with
  | none =>
    have hN : getFr l i = none := by rw [hS.out, hx]
    rw [hx] at h3
    obtain ⟨o3, t, v, rfl⟩ := h3
    refine ⟨rfl, ?_⟩
    rw [hN]
    exact ⟨only_trans HO2.out o3, t, v, rfl⟩
  | some x =>
  obtain ⟨n, d⟩ := x
  rw [hx] at h3
  obtain ⟨o3, r3, v, rfl, rfl⟩ := h3
  rw [hx] at hS
  replace hS : Hid (getFr l i = if n = sumN s.data.toList then some (s.data.toList, d) else none) := hS
  have HB3 := hidP (HB.out.only o3 hr)
  have HO3 := hidP (only_trans HO2.out o3)
  have HR3 := hidP r3
  have hat3 : Hid (At w3 (some ⟨w1.heap.size, 0, none⟩) s.data.toList) := by
    obtain ⟨b, c', e, _, hb, hi, _⟩ := HB3.out
    simp only [Value.slice.injEq, Option.some.injEq, Addr.mk.injEq, and_true] at e
    obtain ⟨e1, _⟩ := e
    subst e1
    exact .inr ⟨_, _, rfl, hb, hi⟩
  have hlen3 : s.data.toList.length ≤ 3000000 := by omega
  have hSum := hidP (implSum_any (some ⟨w1.heap.size, 0, none⟩) gc s.data.toList hlen3 _ hat3.out)
  rw [hlen] at hSum
  clear o3 r3 HB HO2 HR2 hcv hx
  go_wp2_with fail
  refine hSum.out.mono ?_
  rintro e w4 ⟨rfl, rfl⟩
  clear hSum hat3
  generalize sumN s.data.toList = N at *
  by_cases hn : n = N
  · subst hn
    rw [if_pos rfl] at hS
    go_wp2
    go_ret
    rw [hS.out]
    exact ⟨HO3.out, HR3.out, _, rfl, HB3.out⟩
  · rw [if_neg hn] at hS
    have hn' : ¬ ((n : Int) = (N : Int)) := by omega
    go_wp2
    refine ⟨rfl, ?_⟩
    rw [hS.out]
    exact ⟨HO3.out, _, _, rfl⟩
end Go.Proofs.YtfbbifdfjjkknaaDoor.Gen
