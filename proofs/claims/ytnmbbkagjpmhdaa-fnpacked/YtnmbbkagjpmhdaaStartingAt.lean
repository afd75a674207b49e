/-
  The program's rowOf.startingAt at this seat.
-/
import Derived.Test.YtnmbbkagjpmhdaaLengths
namespace Go.Proofs.Ytnmbbkagjpmhdaa.Items
open Go.ChangeShapes Go.WideShapes Go.ChangeAt Go.RowKit Go.Shelf Base
set_option linter.unusedVariables false

/-- How long the list in a row's box is. -/
def lenAt (W : World) (B : Nat) : Nat := match W.cell? ⟨B, 2, none⟩ with | some (.slice _ n _) => n | _ => 0
theorem lenAt_is {W : World} {B n c : Nat} {a : Option Addr} (h : W.cell? ⟨B, 2, none⟩ = some (.slice a n c)) : lenAt W B = n := by simp [lenAt, h]

theorem In.tail {w : World} {b o : Nat} {x : It} {l : List It} (h : In w b o (x :: l)) : In w b (o + 5) l := fun j v hv => by
  have := h (5 + j) v (by rw [flat_cons, List.getElem?_append_right (by rw [It.cs_length]; omega), It.cs_length]; simpa using hv)
  rwa [← Nat.add_assoc] at this

set_option maxRecDepth 100000 in
set_option maxHeartbeats 600000 in
theorem startingAt_any (start next st : Int) (A : Option Addr) (cap : Nat) (l : List It) (hl : l.length ≤ 2000000) (hc : l.length ≤ cap) (hc' : cap ≤ 9223372036854775807) (w : World) (hA : At w A l) :
    Calls Try.prog 64 #[.agg #[.int .i64 start, .int .i64 next, .slice A l.length cap], .int .i64 st] w fun e w' => ∃ A' c', e = .returned (.agg #[.int .i64 st, .int .i64 next, .slice A' (l.dropWhile (fun x => decide (x.off < st))).length c']) ∧ (l.dropWhile (fun x => decide (x.off < st))).length ≤ c' ∧ c' ≤ cap ∧ (∀ w0, At w0 A l → At w0 A' (l.dropWhile (fun x => decide (x.off < st)))) ∧ Below w.heap.size w w' := by
  have HA : Hid (At w A l) := hA
  clear hA
  go_enter Try.func64, Try.ntmps64
  go_wp2_with fail
  go_loopw [] (fun wr => ∃ (m : List It) (a : Option Addr) (c : Nat), Hid (Blk wr w.heap.size 63 #[.int .i64 start, .int .i64 next, .slice a m.length c]) ∧ Hid (Blk wr (w.heap.size + 1) 63 #[.int .i64 0, .int .i64 0, .slice none 0 0]) ∧ Hid (Below w.heap.size w wr) ∧ Hid (∀ w0, At w0 A l → At w0 a m) ∧ Hid (m.length ≤ c) ∧ Hid (c ≤ cap) ∧ Hid (m.length ≤ 2000000) ∧ Hid (m.dropWhile (fun x => decide (x.off < st)) = l.dropWhile (fun x => decide (x.off < st)))) (fun wr => lenAt wr w.heap.size)
  case atStart =>
    have p1 := Blk.new (w.alloc (.cells #[.int .i64 start, .int .i64 next, .slice A l.length cap] 63)) 63 #[.int .i64 0, .int .i64 0, .slice none 0 0]
    rw [World.size_alloc] at p1
    exact ⟨l, A, cap, (Blk.new w 63 #[.int .i64 start, .int .i64 next, .slice A l.length cap]).alloc _, p1, alloc0 (alloc0 (Below.refl _ _) _) _, fun _ h => h, hc, Nat.le_refl _, hl, rfl⟩
  case round =>
    obtain ⟨m, a, c, h0, h1, hB, hA, hmc, hcc, hm, hd⟩ := hrel
    obtain ⟨c0, c1, c2⟩ := h0.out.row
    obtain ⟨d0, d1, d2⟩ := h1.out.row
    have f0 := h0.out.thaw 0
    have f1 := h0.out.thaw 1
    have f2 := h0.out.thaw 2
    have k0 := h1.out.thaw 0
    have k1 := h1.out.thaw 1
    have k2 := h1.out.thaw 2
    have q0 := h0.out.lt
    have q1 := h1.out.lt
    have hlen := lenAt_is c2
    cases m with
    | nil =>
      have e9 : Hid (l.dropWhile (fun x => decide (x.off < st)) = []) := by show l.dropWhile (fun x => decide (x.off < st)) = []; rw [← hd.out]; rfl
      go_wp2
      have z : Blk _ (w.heap.size + 1) 63 #[.int .i64 st, .int .i64 next, .slice a 0 c] := (((h1.out.other (B' := w.heap.size) (by omega) 0 (.int .i64 st)).setAt 0 (.int .i64 st)).setAt 1 (.int .i64 next)).setAt 2 (.slice a 0 c)
      obtain ⟨e0, e1, e2⟩ := z.row
      exact bodyPost_ret (v := .agg #[.int .i64 st, .int .i64 next, .slice a 0 c]) (by simp [results, Try.results64, go_sem, e0, e1, e2]) rfl
        ⟨a, c, by rw [e9.out]; rfl, by rw [e9.out]; exact Nat.zero_le _, hcc.out, fun _ _ => by rw [e9.out]; exact .inl rfl, bl_set (bl_set (bl_set (bl_set hB.out (Nat.le_refl _) _) (by omega) _) (by omega) _) (by omega) _⟩
    | cons x m =>
      obtain ⟨b, o, rfl, hb, hin⟩ : ∃ b o, a = some ⟨b, o, none⟩ ∧ b < w.heap.size ∧ In w b o (x :: m) := (hA.out w HA.out).resolve_left (by simp)
      obtain ⟨x0, x1, x2, x3, x4⟩ := (hin.below hb hB.out).get 0 (by simp)
      simp only [Nat.zero_mul, Nat.add_zero, List.getElem_cons_zero] at x0 x1 x2 x3 x4
      have hm' := number_of x
      have hqb : b < wr.heap.size := Nat.lt_of_lt_of_le hb hB.out.size
      by_cases hx : x.off < st
      · have e9 : Hid (m.dropWhile (fun x => decide (x.off < st)) = l.dropWhile (fun x => decide (x.off < st))) := by show m.dropWhile _ = _; rw [← hd.out, List.dropWhile_cons_of_pos (by simpa using hx)]
        have hmc' : m.length + 1 ≤ c := hmc.out
        have hAt : Hid (∀ w0, At w0 A l → At w0 (if c = 1 then some ⟨b, o, none⟩ else some ⟨b, o + 5, none⟩) m) := fun w0 h0 => by
          by_cases h1 : c = 1
          · left; exact List.length_eq_zero_iff.1 (by omega)
          · rw [if_neg h1]
            obtain ⟨b', o', e', hb', hin'⟩ := (hA.out w0 h0).resolve_left (by simp)
            cases e'
            exact .inr ⟨b, o + 5, rfl, hb', hin'.tail⟩
        go_wp2_with (go_at_call 92; refine (number_any x _).mono ?_; rintro e w' ⟨rfl, rfl⟩)
        have z0 : Blk _ w.heap.size 63 #[.int .i64 start, .int .i64 next, .slice (if c = 1 then some ⟨b, o, none⟩ else some ⟨b, o + 5, none⟩) m.length (c - 1)] := (h0.out.setAt 2 (.slice (if c = 1 then some ⟨b, o, none⟩ else some ⟨b, o + 5, none⟩) m.length (c - 1))).alloc (.cells #[.int .i64 x.off, .string x.key, .string x.text, .int .i64 x.who, .int .i64 x.time] 34)
        refine ⟨⟨m, _, _, z0, (h1.out.other (by omega) _ _).alloc _, alloc0 (bl_set hB.out (Nat.le_refl _) _) _, hAt, show m.length ≤ c - 1 by omega, show c - 1 ≤ cap by have := hcc.out; omega, show m.length ≤ 2000000 by have := hm.out; simp at this; omega, e9⟩, ?_⟩
        rw [lenAt_is z0.row.2.2, hlen]
        simp
      · have e9 : Hid (l.dropWhile (fun x => decide (x.off < st)) = x :: m) := by show l.dropWhile (fun x => decide (x.off < st)) = x :: m; rw [← hd.out, List.dropWhile_cons_of_neg (by simpa using hx)]
        have hmc' : m.length + 1 ≤ c := hmc.out
        go_wp2_with (go_at_call 92; refine (number_any x _).mono ?_; rintro e w' ⟨rfl, rfl⟩)
        have z : Blk _ (w.heap.size + 1) 63 #[.int .i64 st, .int .i64 next, .slice (some ⟨b, o, none⟩) (m.length + 1) c] := ((((h1.out.other (B' := w.heap.size) (by omega) 0 (.int .i64 st)).setAt 0 (.int .i64 st)).setAt 1 (.int .i64 next)).setAt 2 (.slice (some ⟨b, o, none⟩) (m.length + 1) c)).alloc (.cells #[.int .i64 x.off, .string x.key, .string x.text, .int .i64 x.who, .int .i64 x.time] 34)
        obtain ⟨e0, e1, e2⟩ := z.row
        exact bodyPost_ret (v := .agg #[.int .i64 st, .int .i64 next, .slice (some ⟨b, o, none⟩) (m.length + 1) c]) (by simp [results, Try.results64, go_sem, e0, e1, e2]) rfl
          ⟨some ⟨b, o, none⟩, c, by rw [e9.out]; rfl, by rw [e9.out]; exact hmc', hcc.out, by rw [e9.out]; exact hA.out, alloc0 (bl_set (bl_set (bl_set (bl_set hB.out (Nat.le_refl _) _) (by omega) _) (by omega) _) (by omega) _) _⟩
end Go.Proofs.Ytnmbbkagjpmhdaa.Items
