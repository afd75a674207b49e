/-
  The program's reader: the next byte, a number, a text, and where it panics. Condition: at most 1048576 bytes.
-/
import Derived.Test.YtjjbbkmedpfenaaGreatSGetNum
import Derived.Deep.QuietTactic
import Derived.BigQuiet
import Derived.Laws.IdiomStrings
import Derived.Test.YtjjbbkmedpfenaaGreatGen
import Derived.Test.YtjjbbkmedpfenaaGreatBase
import Derived.Deep.MidRow
import Derived.Test.YtjjbbkmedpfenaaGreatRows
import Derived.Laws.MakeOwn
import Derived.Test.YtjjbbkmedpfenaaGreatOpen
import Derived.Deep.Slices
namespace Go.Proofs.YtjjbbkmedpfenaaGreat.Gen
open Go.ChangeShapes Go.WideShapes Go.ChangeAt Go.RowKit Go.Joins Go.Deep Base
set_option linter.unusedVariables false

/-- The reader at block r stands at place i of the bytes l. -/
structure Rd (W : World) (r : Nat) (A : Option Addr) (cap : Nat) (l : List UInt8) (i : Int) : Prop where
  box : Blk W r 84 #[.slice A l.length cap, .int .i64 i]
  src : l = [] ∨ ∃ b o, A = some ⟨b, o, none⟩ ∧ b < W.heap.size ∧ b ≠ r ∧ In W b o l
  i64 : I64 i
theorem Rd.below {W W' : World} {r : Nat} {A : Option Addr} {cap : Nat} {l : List UInt8} {i : Int} (h : Rd W r A cap l i) (g : Below W.heap.size W W') : Rd W' r A cap l i :=
  ⟨h.box.below g h.box.lt, h.src.imp id fun ⟨b, o, e, hb, hn, hi⟩ => ⟨b, o, e, Nat.lt_of_lt_of_le hb g.size, hn, hi.below hb g⟩, h.i64⟩
theorem Rd.goto {W : World} {r : Nat} {A : Option Addr} {cap : Nat} {l : List UInt8} {i : Int} (h : Rd W r A cap l i) (j : Int) (hj : I64 j) : Rd (W.setCell ⟨r, 1, none⟩ (.int .i64 j)) r A cap l j :=
  ⟨h.box.setAt 1 _, h.src.imp id fun ⟨b, o, e, hb, hn, hi⟩ => ⟨b, o, e, by simpa using hb, hn, hi.set _ _ (fun e => hn e.symm)⟩, hj⟩

theorem only_drewN {b : Nat} {a w : World} (h : Only b a w) (n : Nat) : Only b a (w.drewN n) := h.below (below_drewN (Below.refl _ _) n)
theorem Rd.drewN {W : World} {r : Nat} {A : Option Addr} {cap : Nat} {l : List UInt8} {i : Int} (h : Rd W r A cap l i) (n : Nat) : Rd (W.drewN n) r A cap l i := h.below (below_drewN (Below.refl _ _) n)

set_option maxRecDepth 100000 in
set_option maxHeartbeats 2000000 in
theorem next_any (r : Nat) (A : Option Addr) (cap : Nat) (l : List UInt8) (j : Nat) (hj : j < l.length) (hl : l.length ≤ 1048576) (w : World) (h : Rd w r A cap l (j : Int)) :
    Calls Tryz.prog 93 #[.pointer (some ⟨r, 0, none⟩)] w fun e w' => e = .returned (.int .i64 (l[j].toNat : Int)) ∧ Only r w w' ∧ Rd w' r A cap l ((j + 1 : Nat) : Int) := by
  obtain ⟨c0, c1⟩ := h.box.row2
  have f1 := h.box.thaw 1
  have q0 := h.box.lt
  obtain ⟨b, o, rfl, hbs, hne, hin⟩ : ∃ b o, A = some ⟨b, o, none⟩ ∧ b < w.heap.size ∧ b ≠ r ∧ In w b o l := by
    rcases h.src with h | h
    · subst h; simp at hj
    · exact h
  have d0 := hin.getB j hj
  have hd2 : (l[j]).toNat < 256 := (l[j]).toNat_lt
  generalize (l[j]).toNat = d at *
  have HR := hidP h
  have hp1 : (0 : Int) ≤ (j : Int) := by omega
  have hp0 : decide ((j : Int) < 0) = false := by simp
  have hp3 : decide ((l.length : Int) ≤ (j : Int)) = false := by simp; omega
  have hp2 : (j : Int) < (l.length : Int) := by omega
  clear h hin
  go_enter Tryz.func93, Tryz.ntmps93
  go_wp2_with fail
  go_quiet (fail)
  go_wp2_with fail
  go_quiet (fail)
  go_wp2
  go_ret
  refine ⟨rfl, ?_, ?_⟩
  · exact (only_drewN (Only.refl _ _) _).set _ _
  · exact (HR.out.drewN _).goto ((j + 1 : Nat) : Int) ⟨by omega, by omega⟩

/-- There is no next byte. -/
theorem next_none (r : Nat) (A : Option Addr) (cap : Nat) (l : List UInt8) (i : Int) (hj : ¬ (0 ≤ i ∧ i < (l.length : Int))) (hl : l.length ≤ 1048576) (w : World) (h : Rd w r A cap l i) :
    Calls Tryz.prog 93 #[.pointer (some ⟨r, 0, none⟩)] w fun e w' => e = .panicked [{ v := .iface 9 (.string ⟨#[110, 111, 32, 110, 117, 109, 98, 101, 114]⟩), recovered := false }] ∧ Only r w w' := by
  obtain ⟨c0, c1⟩ := h.box.row2
  have q0 := h.box.lt
  clear h
  by_cases h0 : i < 0
  · have hp0 : decide (i < 0) = true := by simpa using h0
    clear hj
    go_enter Tryz.func93, Tryz.ntmps93
    go_wp2_with fail
    go_quiet (fail)
    go_wp2
    exact ⟨rfl, rfl, only_drewN (Only.refl _ _) _⟩
  · have hp0 : decide (i < 0) = false := by simp; omega
    have hp3 : decide ((l.length : Int) ≤ i) = true := by simp; omega
    clear hj h0
    go_enter Tryz.func93, Tryz.ntmps93
    go_wp2_with fail
    go_quiet (fail)
    go_wp2
    exact ⟨rfl, rfl, only_drewN (Only.refl _ _) _⟩
/-- What a reader's function does: it reads a value and stands behind it, or it panics; the reader alone turns. -/
def Reads {α : Type} (R : α → Value → World → Prop) (r : Nat) (A : Option Addr) (cap : Nat) (l : List UInt8) (w : World) (e : Ending) (w' : World) : Option (α × Nat) → Prop
  | some (x, c) => Only r w w' ∧ Rd w' r A cap l (c : Int) ∧ ∃ v, e = .returned v ∧ R x v w'
  | none => Only r w w' ∧ ∃ t v, e = .panicked [{ v := .iface t v, recovered := false }]
def isNum (n : Nat) (v : Value) (_ : World) : Prop := v = .int .i64 (n : Int)
def isTxt (s : ByteArray) (v : Value) (_ : World) : Prop := v = .string s

theorem only_trans {b : Nat} {w w1 w2 : World} (h : Only b w w1) (k : Only b w1 w2) : Only b w w2 :=
  ⟨k.os.trans h.os, k.tape.trans h.tape, k.output.trans h.output, Nat.le_trans h.size k.size, fun i hi hb => (k.block i (Nat.lt_of_lt_of_le hi h.size) hb).trans (h.block i hi hb)⟩
theorem sum_join {k acc d : Nat} (hk : k < 5) (hacc : acc < 128 ^ k) (hd : d < 256) : (acc : Int) + wrap64 ((d : Int) % 128 * 2 ^ (k * 7)) = ((acc + d % 128 * 128 ^ k : Nat) : Int) := by
  have hk' : k = 0 ∨ k = 1 ∨ k = 2 ∨ k = 3 ∨ k = 4 := by omega
  rcases hk' with rfl | rfl | rfl | rfl | rfl <;> rw [w64_in _ (by omega)] <;> omega

set_option maxRecDepth 100000 in
set_option maxHeartbeats 4000000 in
theorem readNum_any (r : Nat) (A : Option Addr) (cap : Nat) (l : List UInt8) (i : Int) (hl : l.length ≤ 1048576) (w : World) (h : Rd w r A cap l i) :
    Calls Tryz.prog 54 #[.pointer (some ⟨r, 0, none⟩)] w fun e w' => Reads isNum r A cap l w e w' (getN l i) := by
  have HR := hidP h
  clear h
  go_enter Tryz.func54, Tryz.ntmps54
  go_wp2
  go_loopw [3, 6] (fun v3 v6 W => ∃ (k acc : Nat), v3 = .int .i64 (acc : Int) ∧ v6 = .int .i64 (k : Int) ∧ k ≤ 5 ∧ Hid (acc < 128 ^ k) ∧ Hid (Only r w W) ∧ Hid (k = 0 ∨ 0 ≤ i) ∧ Hid (Rd W r A cap l (i + (k : Int))) ∧ Hid (getN l i = rest l i k acc)) (fun _ v6 _ => 5 - (intOf v6).toNat)
  case atStart => exact ⟨0, 0, rfl, rfl, by omega, by show 0 < 1; omega, Only.refl _ _, .inl rfl, by simpa using HR, rest_zero l i⟩
  case round =>
    obtain ⟨k, acc, rfl, rfl, hk, hacc, hO, hpos, hR, hrest⟩ := hrel
    by_cases h5 : k < 5
    · have h5' : (k : Int) < 5 := by omega
      by_cases hin : 0 ≤ i + (k : Int) ∧ i + (k : Int) < (l.length : Int)
      · obtain ⟨j, rfl⟩ : ∃ j : Nat, i = (j : Int) := ⟨i.toNat, by rcases hpos.out with h | h <;> omega⟩
        have hp : j + k < l.length := by omega
        have hR' : Hid (Rd wr r A cap l ((j + k : Nat) : Int)) := hR
        have hst := hidP (rest_step h5 acc hp)
        have hd2 : (l[j + k]).toNat < 256 := (l[j + k]).toNat_lt
        clear hin
        go_wp2_with fail
        refine (next_any r A cap l (j + k) hp hl _ hR'.out).mono ?_
        rintro e w1 ⟨rfl, o1, r1⟩
        generalize (l[j + k]).toNat = d at *
        have hO1 := hidP (only_trans hO.out o1)
        have hR1 : Hid (Rd w1 r A cap l ((j : Int) + ((k + 1 : Nat) : Int))) := by have e : (j : Int) + ((k + 1 : Nat) : Int) = ((j + k + 1 : Nat) : Int) := by omega
                                                                                   show Rd _ _ _ _ _ _; rw [e]; exact r1
        have hor := sum_join h5 hacc.out hd2
        have hnx := hidP (acc_next h5 hacc.out hd2)
        have hn35 := acc_le (k := k + 1) (by omega) hnx.out
        have hal := acc_le hk hacc.out
        clear o1 r1 hR hR' hO
        generalize acc + d % 128 * 128 ^ k = N at *
        by_cases hd1 : d < 128
        · rw [if_pos hd1] at hst
          have hd128 : ¬ (128 : Int) ≤ (d : Int) := by omega
          by_cases hbad : (0 < k ∧ d = 0) ∨ 2147483647 < N
          · rw [if_pos hbad] at hst
            have hN := hidP (hrest.out.trans hst.out)
            clear hst hrest
            by_cases hz : 0 < k ∧ d = 0
            · obtain ⟨hz1, rfl⟩ := hz
              have hz2 : decide ((0 : Int) < (k : Int)) = true := by simp; omega
              have hz3 : (0 : Int) < (k : Int) := by omega
              go_wp2
              refine ⟨rfl, ?_⟩
              rw [hN.out]
              exact ⟨hO1.out, _, _, rfl⟩
            · have hN1 : 2147483647 < N := by omega
              have hN2 : (2147483647 : Int) < (N : Int) := by omega
              by_cases hd0 : d = 0
              · subst hd0
                obtain rfl : k = 0 := by omega
                have := hnx.out
                exfalso
                omega
              · have hd0' : ((d : Int) == 0) = false := by simp; omega
                go_wp2
                refine ⟨rfl, ?_⟩
                rw [hN.out]
                exact ⟨hO1.out, _, _, rfl⟩
          · rw [if_neg hbad] at hst
            have hN := hidP (hrest.out.trans hst.out)
            have hN1 : N ≤ 2147483647 := by omega
            have hN2 : ¬ ((2147483647 : Int) < (N : Int)) := by omega
            clear hst hrest
            by_cases hd0 : d = 0
            · subst hd0
              obtain rfl : k = 0 := by omega
              obtain rfl : acc = 0 := by have := hacc.out; omega
              obtain rfl : N = 0 := by rw [w64_in _ (by simp)] at hor; simp at hor; omega
              clear hor
              go_wp2
              go_ret
              rw [hN.out]
              exact ⟨hO1.out, hR1.out, _, rfl, rfl⟩
            · have hd0' : ((d : Int) == 0) = false := by simp; omega
              go_wp2
              go_ret
              rw [hN.out]
              exact ⟨hO1.out, hR1.out, _, rfl, rfl⟩
        · rw [if_neg hd1] at hst
          have hN := hidP (hrest.out.trans hst.out)
          clear hst hrest
          go_wp2
          exact ⟨⟨k + 1, N, rfl, by go_num, by omega, hnx, hO1, hidP (.inr (by omega)), hR1, hN⟩, by simp [intOf]; omega⟩
      · have hN : Hid (getN l i = none) := by
          show _ = _
          rw [hrest.out]
          by_cases h0 : i < 0
          · exact rest_neg h0
          · exact rest_past (by omega)
        go_wp2_with fail
        refine (next_none r A cap l _ hin hl _ hR.out).mono ?_
        rintro e w1 ⟨rfl, o1⟩
        refine ⟨rfl, ?_⟩
        rw [hN.out]
        exact ⟨only_trans hO.out o1, _, _, rfl⟩
    · obtain rfl : k = 5 := by omega
      have hN := hidP (hrest.out.trans rest_five)
      go_wp2
      refine ⟨rfl, ?_⟩
      rw [hN.out]
      exact ⟨hO.out, _, _, rfl⟩
end Go.Proofs.YtjjbbkmedpfenaaGreat.Gen

/-
  A text read: the specification's GetText, and the program's reader of texts. Condition: at most 1048576 bytes.
-/
namespace Go.Proofs.YtjjbbkmedpfenaaGreat.Gen
open Go.ChangeShapes Go.WideShapes Go.ChangeAt Go.RowKit Go.Joins Go.Deep Base
set_option linter.unusedVariables false

/-- The text that begins at a place, and the place behind it. -/
def getT (l : List UInt8) (i : Int) : Option (ByteArray × Nat) := match getN l i with
  | some (n, c) => if c + n ≤ l.length then some (⟨((l.drop c).take n).toArray⟩, c + n) else none
  | none => none
def txtT (o : Option (ByteArray × Nat)) : Value := match o with
  | some (s, c) => .tuple #[.string s, .int .i64 (c : Int), .bool true]
  | none => .tuple #[.string ⟨#[]⟩, .int .i64 0, .bool false]
theorem getT_le {l : List UInt8} {i : Int} {s : ByteArray} {c : Nat} (h : getT l i = some (s, c)) : 0 ≤ i ∧ i < (c : Int) ∧ c ≤ l.length ∧ s.size ≤ l.length := by
  unfold getT at h
  split at h
  · rename_i n c' hg
    have := getN_le hg
    split at h
    · simp only [Option.some.injEq, Prod.mk.injEq] at h
      obtain ⟨rfl, rfl⟩ := h
      refine ⟨by omega, by omega, by omega, ?_⟩
      show ((l.drop c').take n).toArray.size ≤ _
      simp
      omega
    · cases h
  · cases h

/-- b[c:c+n] as a text. -/
theorem cut_txt {l : List UInt8} {b o cap c n : Nat} (hc : c + n ≤ l.length) (hcap : l.length ≤ cap) (hcm : cap ≤ 9223372036854775807) :
    ∃ a' : Addr, (∀ W : World, (Instr.slice 24 (.slice (some ⟨b, o, none⟩) l.length cap) (some (.int .i64 (c : Int))) (some (.int .i64 ((c : Int) + (n : Int)))) none).run Tryz.prog W = .ok (.slice (some a') n (cap - c)) W) ∧
      ∀ W : World, In W b o l → (convert 24 9 (.slice (some a') n (cap - c))).run Tryz.prog W = .ok (.string ⟨((l.drop c).take n).toArray⟩) W := by
  have hlen : ((l.drop c).take n).length = n := by simp; omega
  obtain ⟨i0, hi, hz0, hz1, hz2⟩ := info_parts infoB
  have hsz : ∀ W : World, (sizeOf 5).run Tryz.prog W = .ok 1 W := fun W => by simp [sizeOf, typeInfo, hi, hz1]
  have ht : ((c : Int) + (n : Int)).toNat - c = n := by omega
  by_cases he : cap = c
  · subst he
    obtain rfl : n = 0 := by omega
    refine ⟨⟨b, o, none⟩, fun W => ?_, fun W hA => ?_⟩
    · simp [Instr.slice, run_underlying Tryz.underlying24, Instr.sliceBounds, Instr.sliceBound, asIntOf, hsz]
    · have h := run_convert_bytes_back (P := Tryz.prog) W 24 9 5 ⟨b, o, none⟩ (cap - cap) [] Tryz.underlying24 Tryz.underlying5 Tryz.underlying9 (fun j hj => by simp at hj)
      simpa using h
  · refine ⟨⟨b, o + c, none⟩, fun W => ?_, fun W hA => ?_⟩
    · simp [Instr.slice, run_underlying Tryz.underlying24, Instr.sliceBounds, Instr.sliceBound, asIntOf, hsz, he]
      rw [if_pos ⟨by omega, by omega⟩, if_pos (by omega), ht, Addr.add_mid]
    · have h := run_convert_bytes_back (P := Tryz.prog) W 24 9 5 ⟨b, o + c, none⟩ (cap - c) ((l.drop c).take n) Tryz.underlying24 Tryz.underlying5 Tryz.underlying9 (fun j hj => by
        rw [Addr.add_mid]
        have hj' : j < n := by rwa [hlen] at hj
        have := hA.getB (c + j) (by omega)
        rw [← Nat.add_assoc] at this
        simpa using this)
      rwa [hlen] at h

set_option maxRecDepth 100000 in
set_option maxHeartbeats 2000000 in
theorem specGetText_any (A : Option Addr) (cap : Nat) (l : List UInt8) (hl : l.length ≤ 1048576) (hcap : l.length ≤ cap) (hcm : cap ≤ 9223372036854775807) (i : Int) (hi : I64 i) (w : World) (hA : At w A l) :
    Calls Tryz.prog 80 #[.slice A l.length cap, .int .i64 i] w fun e w' => e = .returned (txtT (getT l i)) ∧ w' = w := by
  have HA := hidP hA
  have hi' := hidP hi
  clear hA hi
  go_enter Tryz.func80, Tryz.ntmps80
  go_wp2_with fail
  refine (specGetNum_any A cap l hl i hi'.out _ HA.out).mono ?_
  rintro e w ⟨rfl, rfl⟩
  cases hg : getN l i with
  | none =>
    have hT : Hid (getT l i = none) := by show getT l i = none; unfold getT; rw [hg]
    simp only [numT]
    go_wp2
    exact bodyPost_ret (v := .tuple #[.string ⟨#[]⟩, .int .i64 0, .bool false]) (by simp [results, Tryz.results80, go_sem]) rfl ⟨by rw [hT.out]; rfl, rfl⟩
  | some x =>
    obtain ⟨n, c⟩ := x
    obtain ⟨g1, g2, g3, g4, g5⟩ := getN_le hg
    simp only [numT]
    obtain ⟨b, o, rfl, hbs, hin⟩ : ∃ b o, A = some ⟨b, o, none⟩ ∧ b < w.heap.size ∧ In w b o l := by
      rcases HA.out with h | h
      · subst h; simp at g4; omega
      · exact h
    by_cases hc : c + n ≤ l.length
    · have hT : Hid (getT l i = some (⟨((l.drop c).take n).toArray⟩, c + n)) := by show getT l i = _; unfold getT; rw [hg]; simp [hc]
      obtain ⟨a', hs, hv⟩ := cut_txt (b := b) (o := o) hc hcap hcm
      have hs1 := hs w
      have hv1 := hv w hin
      have hn1 : ¬ ((l.length : Int) - (c : Int) < (n : Int)) := by omega
      clear hs hv hin
      go_wp2
      exact bodyPost_ret (v := .tuple #[.string ⟨((l.drop c).take n).toArray⟩, .int .i64 ((c : Int) + (n : Int)), .bool true]) (by simp [results, Tryz.results80, go_sem]) rfl ⟨by rw [hT.out]; rfl, rfl⟩
    · have hT : Hid (getT l i = none) := by show getT l i = none; unfold getT; rw [hg]; simp [hc]
      have hn1 : ((l.length : Int) - (c : Int) < (n : Int)) := by omega
      clear hin
      go_wp2
      exact bodyPost_ret (v := .tuple #[.string ⟨#[]⟩, .int .i64 0, .bool false]) (by simp [results, Tryz.results80, go_sem]) rfl ⟨by rw [hT.out]; rfl, rfl⟩

set_option maxRecDepth 100000 in
set_option maxHeartbeats 2000000 in
theorem readTxt_any (r : Nat) (A : Option Addr) (cap : Nat) (l : List UInt8) (i : Int) (hl : l.length ≤ 1048576) (hcap : l.length ≤ cap) (hcm : cap ≤ 9223372036854775807) (w : World) (h : Rd w r A cap l i) :
    Calls Tryz.prog 94 #[.pointer (some ⟨r, 0, none⟩)] w fun e w' => Reads isTxt r A cap l w e w' (getT l i) := by
  have HR := hidP h
  clear h
  go_enter Tryz.func94, Tryz.ntmps94
  go_wp2_with fail
  refine (readNum_any r A cap l i hl _ HR.out).mono ?_
  intro e w1 h1
  cases hg : getN l i with
  | none =>
    have hT : Hid (getT l i = none) := by show getT l i = none; unfold getT; rw [hg]
    rw [hg] at h1
    obtain ⟨o1, t, v, rfl⟩ := h1
    refine ⟨rfl, ?_⟩
    rw [hT.out]
    exact ⟨o1, t, v, rfl⟩
  | some x =>
    obtain ⟨n, c⟩ := x
    rw [hg] at h1
    obtain ⟨o1, r1, v, rfl, rfl⟩ := h1
    obtain ⟨g1, g2, g3, g4, g5⟩ := getN_le hg
    obtain ⟨c0, c1⟩ := r1.box.row2
    have f1 := r1.box.thaw 1
    have q0 := r1.box.lt
    have HR1 := hidP r1
    have HO1 := hidP o1
    obtain ⟨b, o, rfl, hbs, hne, hin⟩ : ∃ b o, A = some ⟨b, o, none⟩ ∧ b < w1.heap.size ∧ b ≠ r ∧ In w1 b o l := by
      rcases r1.src with h | h
      · subst h; simp at g4; omega
      · exact h
    clear r1 o1
    by_cases hc : c + n ≤ l.length
    · have hT : Hid (getT l i = some (⟨((l.drop c).take n).toArray⟩, c + n)) := by show getT l i = _; unfold getT; rw [hg]; simp [hc]
      obtain ⟨a', hs, hv⟩ := cut_txt (b := b) (o := o) hc hcap hcm
      have hn1 : decide ((l.length : Int) - (c : Int) < (n : Int)) = false := by simp; omega
      have hn2 : ¬ ((l.length : Int) - (c : Int) < (n : Int)) := by omega
      have HV := hidP hv
      have HIn := hidP hin
      clear hin hv
      go_wp2_with fail
      go_quiet (fail)
      go_wp2_with fail
      have r2 := (HR1.out.drewN nq).goto ((c : Int) + (n : Int)) ⟨by omega, by omega⟩
      have o2 : Hid (Only r w ((w1.drewN nq).setCell ⟨r, 1, none⟩ (.int .i64 ((c : Int) + (n : Int))))) := (only_drewN HO1.out nq).set _ _
      have hin2 : In ((w1.drewN nq).setCell ⟨r, 1, none⟩ (.int .i64 ((c : Int) + (n : Int)))) b o l := (HIn.out.below hbs (below_drewN (Below.refl _ _) nq)).set _ _ (fun e => hne e.symm)
      have hb2 : b < ((w1.drewN nq).setCell ⟨r, 1, none⟩ (.int .i64 ((c : Int) + (n : Int)))).heap.size := by simpa using hbs
      clear c0 c1 f1 q0 HIn HR1 HO1 hbs
      generalize (w1.drewN nq).setCell ⟨r, 1, none⟩ (.int .i64 ((c : Int) + (n : Int))) = W2 at *
      obtain ⟨c0, c1⟩ := r2.box.row2
      have q0 := r2.box.lt
      have hv2 : ∀ m, (convert 24 9 (.slice (some a') n (cap - c))).run Tryz.prog (W2.drewN m) = .ok (.string ⟨((l.drop c).take n).toArray⟩) (W2.drewN m) := fun m => HV.out _ (hin2.below hb2 (below_drewN (Below.refl _ _) m))
      have hv3 := HV.out _ hin2
      have HR2 := hidP r2
      clear r2 hin2 HV
      go_quiet (fail)
      go_wp2
      go_ret
      rw [hT.out]
      exact ⟨only_drewN o2.out _, HR2.out.drewN _, _, rfl, rfl⟩
    · have hT : Hid (getT l i = none) := by show getT l i = none; unfold getT; rw [hg]; simp [hc]
      have hn1 : decide ((l.length : Int) - (c : Int) < (n : Int)) = true := by simp; omega
      have hn2 : ((l.length : Int) - (c : Int) < (n : Int)) := by omega
      go_wp2_with fail
      go_quiet (fail)
      go_wp2
      refine ⟨rfl, ?_⟩
      rw [hT.out]
      exact ⟨only_drewN HO1.out _, _, _, rfl⟩
end Go.Proofs.YtjjbbkmedpfenaaGreat.Gen

/-
  Lists of records that have lists of their own: how they lie, each in blocks of its own, what stays when other blocks turn, and what one record's turning does. No condition.
-/
namespace Go.Proofs.YtjjbbkmedpfenaaGreat.Gen
open Go.ChangeShapes Go.WideShapes Go.ChangeAt Go.RowKit Base
set_option linter.unusedVariables false

theorem hidden {p : Prop} (h : p) : Hid p := h

/-- Of what was there the blocks of S alone may have turned. -/
structure Offp (S : Nat → Prop) (w w' : World) : Prop where
  os : w'.os = w.os
  tape : w'.tape = w.tape
  output : w'.output = w.output
  size : w.heap.size ≤ w'.heap.size
  block : ∀ k, k < w.heap.size → ¬ S k → w'.heap[k]? = w.heap[k]?
theorem Offp.refl (S : Nat → Prop) (w : World) : Offp S w w := ⟨rfl, rfl, rfl, Nat.le_refl _, fun _ _ _ => rfl⟩
theorem Offp.trans {S : Nat → Prop} {w w1 w2 : World} (h : Offp S w w1) (k : Offp S w1 w2) : Offp S w w2 :=
  ⟨k.os.trans h.os, k.tape.trans h.tape, k.output.trans h.output, Nat.le_trans h.size k.size, fun i hi hb => (k.block i (Nat.lt_of_lt_of_le hi h.size) hb).trans (h.block i hi hb)⟩
theorem Offp.mono {S T : Nat → Prop} {w w1 : World} (h : Offp S w w1) (s : ∀ x, S x → T x) : Offp T w w1 := ⟨h.os, h.tape, h.output, h.size, fun i hi hb => h.block i hi (fun e => hb (s i e))⟩
theorem Offp.of_below {S : Nat → Prop} {w w1 : World} (h : Below w.heap.size w w1) : Offp S w w1 := ⟨h.os, h.tape, h.output, h.size, fun i hi _ => h.block i hi⟩
theorem Offp.of_only {b : Nat} {w w1 : World} (h : Only b w w1) : Offp (fun x => x = b) w w1 := ⟨h.os, h.tape, h.output, h.size, fun i hi hb => h.block i hi hb⟩
theorem Offp.of_off {F : List Nat} {w w1 : World} (h : Off F w w1) : Offp (fun x => x ∈ F) w w1 := ⟨h.os, h.tape, h.output, h.size, fun i hi hb => h.block i hi hb⟩
theorem Offp.below {S : Nat → Prop} {w w1 w2 : World} (h : Offp S w w1) (k : Below w1.heap.size w1 w2) : Offp S w w2 := h.trans (Offp.of_below k)
theorem Offp.set {S : Nat → Prop} {w w1 : World} (h : Offp S w w1) {b : Nat} (hb : S b) (o : Nat) (v : Value) : Offp S w (w1.setCell ⟨b, o, none⟩ v) :=
  h.trans ((Offp.of_only ((Only.refl b w1).set o v)).mono (fun x e => e ▸ hb))
theorem Offp.toBelow {S : Nat → Prop} {B : Nat} {w w1 : World} (h : Offp S w w1) (hF : ∀ x, S x → B ≤ x) (hw : B ≤ w.heap.size) : Below B w w1 :=
  ⟨h.os, h.tape, h.output, h.size, fun i hi => h.block i (by omega) (fun e => by have := hF i e; omega)⟩
theorem Offp.cell {S : Nat → Prop} {w w1 : World} (h : Offp S w w1) {p : Addr} (hp : p.block < w.heap.size) (hb : ¬ S p.block) : w1.cell? p = w.cell? p := World.cell?_of_block (h.block p.block hp hb)
theorem Offp.frozen {S : Nat → Prop} {w w1 : World} (h : Offp S w w1) {p : Addr} (hp : p.block < w.heap.size) (hb : ¬ S p.block) : w1.frozen? p = w.frozen? p := by
  unfold World.frozen?; rw [h.block p.block hp hb]
theorem Blk.offp {S : Nat → Prop} {W W' : World} {B : Nat} {t : TypeId} {vs : Array Value} (h : Blk W B t vs) (k : Offp S W W') (hne : ¬ S B) : Blk W' B t vs := (k.block B h.lt hne).trans h
theorem there_offp {S : Nat → Prop} {c o n : Nat} {w w1 : World} (h : w.there c o n) (k : Offp S w w1) (hc : c < w.heap.size) (hb : ¬ S c) : w1.there c o n := fun j hj => by
  rw [k.cell (p := ⟨c, o + j, none⟩) hc hb, k.frozen (p := ⟨c, o + j, none⟩) hc hb]; exact h j hj

section
variable {α : Type} [Cel α]
theorem In.offp {S : Nat → Prop} {c o : Nat} {w w1 : World} {l : List α} (h : In w c o l) (k : Offp S w w1) (hc : c < w.heap.size) (hb : ¬ S c) : In w1 c o l :=
  fun j v hv => (k.cell (p := ⟨c, o + j, none⟩) hc hb).trans (h j v hv)

/-- The list l where a leads: in a block of S, which may be written. -/
def Sub (w : World) (a : Option Addr) (l : List α) (S : Nat → Prop) : Prop :=
  l = [] ∨ ∃ b o, a = some ⟨b, o, none⟩ ∧ S b ∧ b < w.heap.size ∧ In w b o l ∧ w.there b o (l.length * Cel.k α)
theorem Sub.offp {S T : Nat → Prop} {w w1 : World} {a : Option Addr} {l : List α} (h : Sub w a l S) (k : Offp T w w1) (hd : ∀ x, S x → ¬ T x) : Sub w1 a l S :=
  h.imp id fun ⟨b, o, e, hs, hb, hi, ht⟩ => ⟨b, o, e, hs, Nat.lt_of_lt_of_le hb k.size, hi.offp k hb (hd b hs), there_offp ht k hb (hd b hs)⟩
theorem Sub.mono {S T : Nat → Prop} {w : World} {a : Option Addr} {l : List α} (h : Sub w a l S) (s : ∀ x, S x → T x) : Sub w a l T :=
  h.imp id fun ⟨b, o, e, hs, r⟩ => ⟨b, o, e, s b hs, r⟩
theorem Sub.at {S : Nat → Prop} {w : World} {a : Option Addr} {l : List α} (h : Sub w a l S) : At w a l :=
  h.imp id fun ⟨b, o, e, _, hb, hi, _⟩ => ⟨b, o, e, hb, hi⟩
theorem Sub.below {S : Nat → Prop} {w w1 : World} {a : Option Addr} {l : List α} (h : Sub w a l S) (k : Below w.heap.size w w1) : Sub w1 a l S :=
  h.offp (Offp.of_below (S := fun _ => False) k) (fun _ _ e => e)
theorem Sub.nil (w : World) (a : Option Addr) (S : Nat → Prop) : Sub w a ([] : List α) S := .inl rfl

theorem rec_flat_set (l : List α) (n : Nat) (hn : n < l.length) (y : α) (f : Nat) (hf : f < Cel.k α) (v : Value) (hy : Cel.cs y = (Cel.cs l[n]).set f v) : flat (l.set n y) = (flat l).set (n * Cel.k α + f) v := by
  induction l generalizing n with
  | nil => simp at hn
  | cons x l ih =>
    cases n with
    | zero =>
      simp only [List.set_cons_zero, flat_cons, Nat.zero_mul, Nat.zero_add]
      rw [List.set_append_left _ _ (by rw [Cel.len]; exact hf), hy]; rfl
    | succ n =>
      simp only [List.set_cons_succ, flat_cons]
      rw [ih n (by simpa using hn) (by simpa using hy), List.set_append_right _ _ (by rw [Cel.len, Nat.add_mul]; omega), Cel.len]
      congr 2
      rw [Nat.add_mul]; omega
/-- One cell of one record written. -/
theorem In.set1 {w : World} {b o : Nat} {l : List α} (h : In w b o l) (n : Nat) (hn : n < l.length) (y : α) (f : Nat) (hf : f < Cel.k α) (v : Value) (hy : Cel.cs y = (Cel.cs l[n]).set f v) : In (w.setCell ⟨b, o + n * Cel.k α + f, none⟩ v) b o (l.set n y) := by
  intro j u hu
  rw [rec_flat_set l n hn y f hf v hy] at hu
  by_cases e : n * Cel.k α + f = j
  · subst e
    rw [List.getElem?_set_self (by rw [flat_length]; have : (n + 1) * Cel.k α ≤ l.length * Cel.k α := Nat.mul_le_mul_right _ hn; rw [Nat.add_mul] at this; omega)] at hu
    cases hu
    have hc := h.cell n hn (f := f) (v := (Cel.cs l[n])[f]'(by rw [Cel.len]; exact hf)) (List.getElem?_eq_getElem _)
    rw [← Nat.add_assoc]
    exact World.cell?_setCell_same' _ _ _ (by rw [hc]; rfl)
  · rw [List.getElem?_set_ne e] at hu
    rw [World.cell?_setCell_other (h := fun ee => by have := congrArg Addr.off ee; simp only at this; omega)]
    exact h j u hu

variable {P : World → α → (Nat → Prop) → Prop}
/-- What lies with a record stays when other blocks turn. -/
def Firm (P : World → α → (Nat → Prop) → Prop) : Prop := ∀ (w w' : World) (x : α) (S T : Nat → Prop), P w x S → Offp T w w' → (∀ y, S y → ¬ T y) → P w' x S

/-- The records l in block b, what lies with record i in blocks of fp i: no block twice. -/
structure OwnF (P : World → α → (Nat → Prop) → Prop) (w : World) (b o : Nat) (l : List α) (fp : Nat → Nat → Prop) : Prop where
  lt : b < w.heap.size
  lst : In w b o l
  th : w.there b o (l.length * Cel.k α)
  sub : ∀ (i : Nat) (h : i < l.length), P w l[i] (fp i)
  dis : ∀ i j, i ≠ j → ∀ x, fp i x → ¬ fp j x
  nb : ∀ i, ¬ fp i b
theorem OwnF.offp (hP : Firm P) {w w' : World} {b o : Nat} {l : List α} {fp : Nat → Nat → Prop} {T : Nat → Prop} (h : OwnF P w b o l fp) (k : Offp T w w') (hb : ¬ T b) (hd : ∀ i x, fp i x → ¬ T x) : OwnF P w' b o l fp :=
  ⟨Nat.lt_of_lt_of_le h.lt k.size, h.lst.offp k h.lt hb, there_offp h.th k h.lt hb, fun i hi => hP _ _ _ _ _ (h.sub i hi) k (hd i), h.dis, h.nb⟩
theorem OwnF.below (hP : Firm P) {w w' : World} {b o : Nat} {l : List α} {fp : Nat → Nat → Prop} (h : OwnF P w b o l fp) (k : Below w.heap.size w w') : OwnF P w' b o l fp :=
  h.offp hP (Offp.of_below (S := fun _ => False) k) (fun e => e) (fun _ _ _ e => e)
/-- One cell of record n written: what lies with it is the same. -/
theorem OwnF.set1 (hP : Firm P) {w : World} {b o : Nat} {l : List α} {fp : Nat → Nat → Prop} (h : OwnF P w b o l fp) (n : Nat) (hn : n < l.length) (y : α) (f : Nat) (hf : f < Cel.k α) (v : Value) (hy : Cel.cs y = (Cel.cs l[n]).set f v)
    (hs : ∀ W S, P W l[n] S → P W y S) : OwnF P (w.setCell ⟨b, o + n * Cel.k α + f, none⟩ v) b o (l.set n y) fp := by
  have k : Offp (fun x => x = b) w (w.setCell ⟨b, o + n * Cel.k α + f, none⟩ v) := Offp.of_only ((Only.refl b w).set _ v)
  refine ⟨by simpa using h.lt, h.lst.set1 n hn y f hf v hy, by rw [List.length_set]; exact there_set h.th _ _ _, fun i hi => ?_, h.dis, h.nb⟩
  have hi' : i < l.length := by simpa using hi
  have hk : P (w.setCell ⟨b, o + n * Cel.k α + f, none⟩ v) l[i] (fp i) := hP _ _ _ _ _ (h.sub i hi') k (fun y hy e => h.nb i (e ▸ hy))
  by_cases e : n = i
  · subst e
    rw [List.getElem_set_self]
    exact hs _ _ hk
  · rw [List.getElem_set_ne e]; exact hk
/-- What lies with record n turned. -/
theorem OwnF.turn (hP : Firm P) {w w' : World} {b o : Nat} {l : List α} {fp : Nat → Nat → Prop} (h : OwnF P w b o l fp) (n : Nat) (hn : n < l.length) (y : α) (hc : Cel.cs y = Cel.cs l[n]) (k : Offp (fp n) w w') (hy : P w' y (fp n)) : OwnF P w' b o (l.set n y) fp := by
  refine ⟨Nat.lt_of_lt_of_le h.lt k.size, ?_, ?_, fun i hi => ?_, h.dis, h.nb⟩
  · have e : flat (l.set n y) = flat l := by
      unfold flat
      rw [List.flatMap_def, List.flatMap_def, List.map_set, hc, ← List.map_set, List.set_getElem_self]
    show w'.rangeAt b o _
    rw [e]
    exact h.lst.offp k h.lt (h.nb n)
  · rw [List.length_set]; exact there_offp h.th k h.lt (h.nb n)
  · have hi' : i < l.length := by simpa using hi
    by_cases e : n = i
    · subst e; rw [List.getElem_set_self]; exact hy
    · rw [List.getElem_set_ne e]; exact hP _ _ _ _ _ (h.sub i hi') k (fun x hx => h.dis i n (fun e' => e e'.symm) x hx)

/-- .. where a leads, all in blocks of S. -/
def Own (P : World → α → (Nat → Prop) → Prop) (w : World) (a : Option Addr) (l : List α) (S : Nat → Prop) : Prop :=
  l = [] ∨ ∃ b o fp, a = some ⟨b, o, none⟩ ∧ S b ∧ (∀ i x, fp i x → S x) ∧ OwnF P w b o l fp
theorem Own.offp (hP : Firm P) {S T : Nat → Prop} {w w1 : World} {a : Option Addr} {l : List α} (h : Own P w a l S) (k : Offp T w w1) (hd : ∀ x, S x → ¬ T x) : Own P w1 a l S :=
  h.imp id fun ⟨b, o, fp, e, hs, hf, hO⟩ => ⟨b, o, fp, e, hs, hf, hO.offp hP k (hd b hs) (fun i x hx => hd x (hf i x hx))⟩
theorem Own.below (hP : Firm P) {S : Nat → Prop} {w w1 : World} {a : Option Addr} {l : List α} (h : Own P w a l S) (k : Below w.heap.size w w1) : Own P w1 a l S :=
  h.offp hP (Offp.of_below (S := fun _ => False) k) (fun _ _ e => e)
theorem Own.mono {S T : Nat → Prop} {w : World} {a : Option Addr} {l : List α} (h : Own P w a l S) (s : ∀ x, S x → T x) : Own P w a l T :=
  h.imp id fun ⟨b, o, fp, e, hs, hf, hO⟩ => ⟨b, o, fp, e, s b hs, fun i x hx => s x (hf i x hx), hO⟩
theorem Own.at {S : Nat → Prop} {w : World} {a : Option Addr} {l : List α} (h : Own P w a l S) : At w a l :=
  h.imp id fun ⟨b, o, fp, e, _, _, hO⟩ => ⟨b, o, e, hO.lt, hO.lst⟩
theorem Own.each {S : Nat → Prop} {w : World} {a : Option Addr} {l : List α} (h : Own P w a l S) {Q : α → Prop} (hQ : ∀ x S, P w x S → Q x) : ∀ x ∈ l, Q x := by
  rcases h with rfl | ⟨b, o, fp, e, _, _, hO⟩
  · simp
  · intro x hx
    obtain ⟨i, hi, rfl⟩ := List.getElem_of_mem hx
    exact hQ _ _ (hO.sub i hi)


/-- A record stored behind those that are there. -/
theorem store_snoc2 {w : World} {b m : Nat} {pre : List α} {x : α} (hin : In w b 0 pre) (hth : w.there b 0 (m * Cel.k α)) (hn : pre.length < m) :
    In (w.setCells b (pre.length * Cel.k α) (Cel.cs x)) b 0 (pre ++ [x]) ∧ (w.setCells b (pre.length * Cel.k α) (Cel.cs x)).there b 0 (m * Cel.k α) := by
  have hlen : (flat pre).length = pre.length * Cel.k α := flat_length _
  refine ⟨?_, World.there_setCells hth _ _ _⟩
  unfold In
  rw [flat_append, flat_one]
  refine rangeAt_append (World.rangeAt_setCells_apart hin _ _ _ (.inr (.inl (by rw [hlen]; omega)))) ?_
  rw [hlen, Nat.zero_add]
  refine World.rangeAt_setCells_same _ _ _ _ fun j hj => ?_
  have hj' : j < Cel.k α := by rwa [Cel.len] at hj
  have hlt : pre.length * Cel.k α + j < m * Cel.k α := by have : (pre.length + 1) * Cel.k α ≤ m * Cel.k α := Nat.mul_le_mul_right _ hn; rw [Nat.add_mul] at this; omega
  have := hth (pre.length * Cel.k α + j) hlt
  rwa [Nat.zero_add] at this
theorem setCells_off (w : World) (b : Nat) : ∀ (vs : List Value) (o : Nat), Only b w (w.setCells b o vs) := by
  intro vs
  induction vs generalizing w with
  | nil => intro o; exact Only.refl _ _
  | cons v vs ih =>
    intro o
    have h1 : Only b w (w.setCell ⟨b, o, none⟩ v) := (Only.refl b w).set o v
    have h2 := ih (w.setCell ⟨b, o, none⟩ v) (o + 1)
    exact ⟨h2.os.trans h1.os, h2.tape.trans h1.tape, h2.output.trans h1.output, Nat.le_trans h1.size h2.size, fun i hi hb => (h2.block i (Nat.lt_of_lt_of_le hi h1.size) hb).trans (h1.block i hi hb)⟩

/-- A list of records under way in a block of room for m: what lies with each in blocks of its own behind it. -/
def Grow (P : World → α → (Nat → Prop) → Prop) (w : World) (b m : Nat) (pre : List α) : Prop :=
  ∃ fp, OwnF P w b 0 pre fp ∧ w.there b 0 (m * Cel.k α) ∧ ∀ i x, fp i x → i < pre.length ∧ b < x ∧ x < w.heap.size
theorem Grow.start {w : World} {b m : Nat} (hb : b < w.heap.size) (hth : w.there b 0 (m * Cel.k α)) : Grow P w b m [] :=
  ⟨fun _ _ => False, ⟨hb, In.nil _ _ _, fun j hj => by simp at hj, fun i h => by simp at h, fun _ _ _ _ h => h.elim, fun _ h => h⟩, hth, fun _ _ h => h.elim⟩
theorem Grow.snoc (hP : Firm P) {w w1 : World} {b m : Nat} {pre : List α} (h : Grow P w b m pre) (hn : pre.length < m) (g : Below w.heap.size w w1) {y : α} {S : Nat → Prop} (hy : P w1 y S) (hS : ∀ x, S x → w.heap.size ≤ x ∧ x < w1.heap.size) :
    Grow P (w1.setCells b (pre.length * Cel.k α) (Cel.cs y)) b m (pre ++ [y]) := by
  obtain ⟨fp, hO, hth, hfp⟩ := h
  have hO1 := hO.below hP g
  have ht1 := there_below hth hO.lt g
  obtain ⟨k1, k2⟩ := store_snoc2 (x := y) hO1.lst ht1 hn
  have ko := setCells_off w1 b (Cel.cs y) (pre.length * Cel.k α)
  have kp := Offp.of_only ko
  have hbS : ∀ x, S x → x ≠ b := fun x hx e => by have := (hS x hx).1; have := hO.lt; omega
  refine ⟨fun i => if i = pre.length then S else fp i, ⟨Nat.lt_of_lt_of_le hO1.lt ko.size, k1, ?_, ?_, ?_, ?_⟩, k2, ?_⟩
  · intro j hj
    refine k2 j (Nat.lt_of_lt_of_le hj (Nat.mul_le_mul_right _ ?_))
    simp; omega
  · intro i hi
    by_cases e : i = pre.length
    · subst e
      simp only [if_true]
      rw [List.getElem_append_right (Nat.le_refl _)]
      simp only [Nat.sub_self, List.getElem_cons_zero]
      exact hP _ _ _ _ _ hy kp (fun x hx => hbS x hx)
    · have hi' : i < pre.length := by simp at hi; omega
      simp only [if_neg e]
      rw [List.getElem_append_left hi']
      exact hP _ _ _ _ _ (hO1.sub i hi') kp (fun x hx e2 => by have := (hfp i x hx).2.1; omega)
  · intro i j hij x hx hx'
    by_cases e1 : i = pre.length
    · by_cases e2 : j = pre.length
      · omega
      · simp only [if_pos e1] at hx
        simp only [if_neg e2] at hx'
        have := (hS x hx).1
        have := (hfp j x hx').2.2
        omega
    · by_cases e2 : j = pre.length
      · simp only [if_neg e1] at hx
        simp only [if_pos e2] at hx'
        have := (hS x hx').1
        have := (hfp i x hx).2.2
        omega
      · simp only [if_neg e1] at hx
        simp only [if_neg e2] at hx'
        exact hO.dis i j hij x hx hx'
  · intro i hx
    by_cases e1 : i = pre.length
    · simp only [if_pos e1] at hx; exact hbS b hx rfl
    · simp only [if_neg e1] at hx; exact hO.nb i hx
  · intro i x hx
    have hs := ko.size
    by_cases e1 : i = pre.length
    · simp only [if_pos e1] at hx
      have := hS x hx
      have := hO.lt
      exact ⟨by simp; omega, by omega, by omega⟩
    · simp only [if_neg e1] at hx
      have := hfp i x hx
      have := g.size
      exact ⟨by simp; omega, by omega, by omega⟩
theorem Grow.own {w : World} {b m : Nat} {pre : List α} (h : Grow P w b m pre) : Own P w (some ⟨b, 0, none⟩) pre (fun x => b ≤ x ∧ x < w.heap.size) := by
  obtain ⟨fp, hO, _, hfp⟩ := h
  exact .inr ⟨b, 0, fp, rfl, ⟨Nat.le_refl _, hO.lt⟩, fun i x hx => by have := hfp i x hx; exact ⟨by omega, this.2.2⟩, hO⟩
theorem Grow.lt {w : World} {b m : Nat} {pre : List α} (h : Grow P w b m pre) : b < w.heap.size := by
  obtain ⟨fp, hO, _, _⟩ := h; exact hO.lt
theorem Grow.th {w : World} {b m : Nat} {pre : List α} (h : Grow P w b m pre) : w.there b 0 (m * Cel.k α) := by
  obtain ⟨fp, _, h, _⟩ := h; exact h
end

theorem offp_grown {W W' : World} {row : Option Nat} (h : W.grownBy W' row) : Offp (fun x => row = some x) W W' := ⟨h.os, h.tape, h.output, h.size, fun k hk hn => h.block k hk (fun e => hn e.symm)⟩
theorem owns_offp {B : Nat} {W W' : World} {v : Value} {t : TypeId} {k n : Nat} {xs : List Value} {S : Nat → Prop} (h : W.ownsRow B t k v n xs) (hg : Offp S W W') (hne : ∀ x, v.ownBlock = some x → ¬ S x) : W'.ownsRow B t k v n xs := by
  refine ⟨h.1, ?_⟩
  rcases h.2 with ⟨rfl, rfl⟩ | ⟨g, c, cur, rfl, hB, hb, hc, hm, hsz, ht⟩
  · exact .inl ⟨rfl, rfl⟩
  · exact .inr ⟨g, c, cur, rfl, hB, Blk.offp (show Blk W g t cur from hb) hg (hne g rfl), hc, hm, hsz, ht⟩

section
variable {α : Type}
/-- What a list becomes by marks: m what a record becomes, c how many marks it takes. -/
def marked (m : α → Int → α) (c : α → Nat) : List α → Int → List α
  | [], _ => []
  | x :: l, z => m x z :: marked m c l (z + c x)
def count (c : α → Nat) (l : List α) : Nat := (l.map c).sum
theorem marked_length (m : α → Int → α) (c : α → Nat) (l : List α) : ∀ z, (marked m c l z).length = l.length := by
  induction l with
  | nil => intro z; rfl
  | cons x l ih => intro z; simp [marked, ih]
theorem count_snoc (c : α → Nat) (l : List α) (n : Nat) (hn : n < l.length) : count c (l.take (n + 1)) = count c (l.take n) + c l[n] := by
  unfold count; rw [List.take_succ_eq_append_getElem hn, List.map_append, List.sum_append]; simp
theorem count_le (c : α → Nat) (l : List α) (n : Nat) : count c (l.take n) ≤ count c l := by
  have e : count c l = count c (l.take n) + count c (l.drop n) := by
    unfold count; rw [← List.sum_append, ← List.map_append, List.take_append_drop]
  omega
theorem count_mem (c : α → Nat) (l : List α) : ∀ x ∈ l, c x ≤ count c l := by
  induction l with
  | nil => simp
  | cons a l ih =>
    intro x hx
    rcases List.mem_cons.1 hx with rfl | hx
    · simp [count]
    · have := ih x hx; simp only [count, List.map_cons, List.sum_cons] at this ⊢; omega
theorem count_zero (c : α → Nat) (l : List α) : count c (l.take 0) = 0 := rfl
theorem count_all (c : α → Nat) (l : List α) (n : Nat) (hn : l.length ≤ n) : count c (l.take n) = count c l := by rw [List.take_of_length_le hn]
/-- The list when the first n have their marks. -/
def half (m : α → Int → α) (c : α → Nat) (l : List α) (k : Int) (n : Nat) : List α := marked m c (l.take n) k ++ l.drop n
theorem half_zero (m : α → Int → α) (c : α → Nat) (l : List α) (k : Int) : half m c l k 0 = l := by simp [half, marked]
theorem half_all (m : α → Int → α) (c : α → Nat) (l : List α) (k : Int) (n : Nat) (hn : l.length ≤ n) : half m c l k n = marked m c l k := by simp [half, List.take_of_length_le hn, List.drop_eq_nil_of_le hn]
theorem half_length (m : α → Int → α) (c : α → Nat) (l : List α) (k : Int) (n : Nat) : (half m c l k n).length = l.length := by
  simp only [half, List.length_append, marked_length, List.length_take, List.length_drop]; omega
theorem half_get (m : α → Int → α) (c : α → Nat) (l : List α) (k : Int) (n : Nat) (hn : n < l.length) (h : n < (half m c l k n).length) : (half m c l k n)[n] = l[n] := by
  have hl : (marked m c (l.take n) k).length = n := by rw [marked_length, List.length_take]; omega
  simp only [half]
  rw [List.getElem_append_right (by omega)]
  simp [hl]
theorem marked_append (m : α → Int → α) (c : α → Nat) (l r : List α) : ∀ k, marked m c (l ++ r) k = marked m c l k ++ marked m c r (k + count c l) := by
  induction l with
  | nil => intro k; simp [marked, count]
  | cons x l ih =>
    intro k
    have e : k + (c x : Int) + (count c l : Int) = k + (count c (x :: l) : Int) := by simp only [count, List.map_cons, List.sum_cons]; omega
    simp only [List.cons_append, marked, ih, e]
theorem half_succ (m : α → Int → α) (c : α → Nat) (l : List α) (k : Int) (n : Nat) (hn : n < l.length) : half m c l k (n + 1) = (half m c l k n).set n (m l[n] (k + count c (l.take n))) := by
  have hl : (marked m c (l.take n) k).length = n := by rw [marked_length, List.length_take]; omega
  unfold half
  rw [List.take_succ_eq_append_getElem hn, marked_append, List.set_append_right _ _ (by omega), hl, Nat.sub_self, List.drop_eq_getElem_cons hn, List.append_assoc]
  rfl
theorem marked_get (m : α → Int → α) (c : α → Nat) (l : List α) (n : Nat) (hn : n < l.length) : ∀ (k : Int) (h : n < (marked m c l k).length), (marked m c l k)[n] = m l[n] (k + count c (l.take n)) := by
  induction l generalizing n with
  | nil => simp at hn
  | cons x l ih =>
    intro k h
    cases n with
    | zero => simp [marked, count]
    | succ n =>
      simp only [marked, List.getElem_cons_succ]
      have e : k + (c x : Int) + (count c (l.take n) : Int) = k + (count c ((x :: l).take (n + 1)) : Int) := by simp only [count, List.take_succ_cons, List.map_cons, List.sum_cons]; omega
      rw [ih n (by simpa using hn), e]
end
end Go.Proofs.YtjjbbkmedpfenaaGreat.Gen

/-
  Lists read by the program's reader: so many values one behind the other, as lists alone; what is under way. Condition: each value takes at least one byte.
-/
namespace Go.Proofs.YtjjbbkmedpfenaaGreat.Gen
open Go.ChangeShapes Go.WideShapes Go.ChangeAt Go.RowKit Go.Joins Go.Deep Base
set_option linter.unusedVariables false
set_option linter.unusedSimpArgs false

/-- n values one behind the other, from place c on, and the place behind them. -/
def getMany {α : Type} (get : Int → Option (α × Nat)) : Nat → Nat → Option (List α × Nat)
  | 0, c => some ([], c)
  | n + 1, c => match get (c : Int) with
    | none => none
    | some (x, d) => match getMany get n d with
      | none => none
      | some (xs, e) => some (x :: xs, e)
def addTo {α : Type} (xs : List α) (o : Option (List α × Nat)) : Option (List α × Nat) := o.map fun p => (xs ++ p.1, p.2)
theorem many_none {α : Type} {get : Int → Option (α × Nat)} {n c : Nat} (xs : List α) (h : get (c : Int) = none) : addTo xs (getMany get (n + 1) c) = none := by simp [getMany, h, addTo]
theorem many_some {α : Type} {get : Int → Option (α × Nat)} {n c d : Nat} {x : α} (xs : List α) (h : get (c : Int) = some (x, d)) : addTo xs (getMany get (n + 1) c) = addTo (xs ++ [x]) (getMany get n d) := by
  simp only [getMany, h, addTo]
  cases getMany get n d with
  | none => rfl
  | some p => simp
theorem many_end {α : Type} (get : Int → Option (α × Nat)) (c : Nat) (xs : List α) : addTo xs (getMany get 0 c) = some (xs, c) := by simp [getMany, addTo]
/-- A list of one's own. -/
def isList {α : Type} [Cel α] (t : TypeId) (B : Nat) (xs : List α) (v : Value) (W : World) : Prop := ∃ a c, v = .slice a xs.length c ∧ W.ownsRow B t (Cel.k α) (.slice a xs.length c) xs.length (flat xs)

theorem Rd.offp {S : Nat → Prop} {W W' : World} {r : Nat} {A : Option Addr} {cap : Nat} {l : List UInt8} {i : Int} (h : Rd W r A cap l i) (k : Offp S W W') (hr : ¬ S r) (hA : l = [] ∨ ∀ c o, A = some ⟨c, o, none⟩ → ¬ S c) : Rd W' r A cap l i := by
  refine ⟨h.box.offp k hr, ?_, h.i64⟩
  rcases hA with e | hA
  · exact .inl e
  · exact h.src.imp id fun ⟨c, o, e, hb, hn, hi⟩ => ⟨c, o, e, Nat.lt_of_lt_of_le hb k.size, hn, hi.offp k hb (hA c o e)⟩
theorem Rd.far' {W : World} {r : Nat} {A : Option Addr} {cap : Nat} {l : List UInt8} {i : Int} (h : Rd W r A cap l i) : r < W.heap.size ∧ (l = [] ∨ ∀ c o, A = some ⟨c, o, none⟩ → c < W.heap.size) := by
  refine ⟨h.box.lt, h.src.imp id fun ⟨b, o, e, hb, _⟩ c o' e' => ?_⟩
  rw [e] at e'
  cases e'
  exact hb
theorem owns_only' {B b : Nat} {W W' : World} {v : Value} {t : TypeId} {k n : Nat} {xs : List Value} (h : W.ownsRow B t k v n xs) (g : Only b W W') (hb : b < B) : W'.ownsRow B t k v n xs := by
  refine ⟨h.1, ?_⟩
  rcases h.2 with hz | ⟨c, c', cur, e, hB, hblk, hr⟩
  · exact .inl hz
  · subst e
    exact .inr ⟨c, c', cur, rfl, hB, (g.block c (Blk.lt (show Blk W c t cur from hblk)) (by omega)).trans hblk, hr⟩
theorem only_offp {b : Nat} {S : Nat → Prop} {w W W' : World} (h : Only b w W) (k : Offp S W W') (hS : ∀ x, S x → w.heap.size ≤ x) : Only b w W' :=
  ⟨k.os.trans h.os, k.tape.trans h.tape, k.output.trans h.output, Nat.le_trans h.size k.size, fun i hi hb => (k.block i (Nat.lt_of_lt_of_le hi h.size) (fun e => by have := hS i e; omega)).trans (h.block i hi hb)⟩

/-- What is under way: the reader, and the list so far. -/
structure RL {α : Type} [Cel α] (t : TypeId) (w W : World) (r : Nat) (A : Option Addr) (cap : Nat) (l : List UInt8) (c : Nat) (v : Value) (xs : List α) : Prop where
  rd : Rd W r A cap l (c : Int)
  only : Only r w W
  own : W.ownsRow w.heap.size t (Cel.k α) v xs.length (flat xs)
  lr : r < w.heap.size
  la : l = [] ∨ ∀ c o, A = some ⟨c, o, none⟩ → c < w.heap.size
theorem RL.app {α : Type} [Cel α] {P : Program} {ts t : TypeId} {z : Value} {bytes : Nat} (hu : P.underlying ts = some (.slice t)) (hinfo : (P.info? t).map (fun i => (i.zero, i.size, i.bytes)) = some (some z, Cel.k α, bytes)) (hz : z.cells.size = Cel.k α) (hk : 0 < Cel.k α) (hby : bytes ≤ 1000)
    {w W W1 : World} {r : Nat} {A : Option Addr} {cap : Nat} {l : List UInt8} {c d : Nat} {a : Option Addr} {cp : Nat} {xs : List α} (h : RL t w W r A cap l c (.slice a xs.length cp) xs) (o : Only r W W1) (h1 : Rd W1 r A cap l (d : Int)) (x : α) (cs : Array Value) (hcs : cs.toList = Cel.cs x) (hx : xs.length ≤ 2000000) :
    ∃ a2 c2 W2, (Builtin.append_ #[ts, ts] ts #[.slice a xs.length cp, .slice (some ⟨W1.heap.size, 0, none⟩) 1 1]).run P (W1.alloc (.cells cs t)) = .ok (.slice a2 (xs.length + 1) c2) W2 ∧ RL t w W2 r A cap l d (.slice a2 (xs.length + 1) c2) (xs ++ [x]) := by
  have hlr := h.lr
  have hw1 : w.heap.size ≤ W1.heap.size := Nat.le_trans h.only.size o.size
  have own1 := owns_alloc (owns_only' h.own o hlr) (.cells cs t)
  have hX : At (W1.alloc (.cells cs t)) (some ⟨W1.heap.size, 0, none⟩) [x] := by
    refine .inr ⟨_, 0, rfl, by simp, fun j u hu => ?_⟩
    rw [flat_one, ← hcs] at hu
    rw [Nat.zero_add]
    exact (Blk.new W1 t cs).cell (by simpa using hu)
  obtain ⟨v', W2, hr, hown, hgrow, _⟩ := append_els (P := P) hu hinfo hz hk hby w.heap.size (.slice a xs.length cp) xs [x] (some ⟨W1.heap.size, 0, none⟩) 1 _ (by simp; omega) own1 hX (by simp; omega)
  simp only [List.length_cons, List.length_nil, Nat.zero_add] at hown hr
  obtain ⟨a2, c2, rfl, _⟩ := owns_form hown
  have ko := offp_grown hgrow
  have hS : ∀ y, (Value.slice a xs.length cp).ownBlock = some y → w.heap.size ≤ y := fun y hy => (own1.lt y hy).1
  refine ⟨a2, c2, W2, hr, ⟨?_, ?_, owns_n (by simp) hown, h.lr, h.la⟩⟩
  · exact (h1.below (alloc0 (Below.refl _ _) _)).offp ko (fun e => by have := hS _ e; omega) (h.la.imp id fun f c o e e' => by have := f c o e; have := hS _ e'; omega)
  · exact only_offp ((only_trans h.only o).below (alloc0 (Below.refl _ _) _)) ko hS

def getList {α : Type} (l : List UInt8) (get : Int → Option (α × Nat)) (i : Int) : Option (List α × Nat) := match getN l i with | none => none | some (n, c) => getMany get n c
theorem getMany_le {α : Type} {l : List UInt8} {get : Int → Option (α × Nat)} (hget : ∀ (i : Nat) x c, get (i : Int) = some (x, c) → i < c ∧ c ≤ l.length) : ∀ (n c : Nat) {xs : List α} {d : Nat}, c ≤ l.length → getMany get n c = some (xs, d) → xs.length = n ∧ c + n ≤ d ∧ d ≤ l.length
  | 0, c, xs, d, hc, h => by
    simp only [getMany, Option.some.injEq, Prod.mk.injEq] at h
    obtain ⟨rfl, rfl⟩ := h
    exact ⟨rfl, Nat.le_refl _, hc⟩
  | n + 1, c, xs, d, hc, h => by
    simp only [getMany] at h
    cases hx : get (c : Int) with
    | none => simp [hx] at h
    | some p =>
    obtain ⟨x, e⟩ := p
    have h1 := hget c x e hx
    simp only [hx] at h
    cases hy : getMany get n e with
    | none => simp [hy] at h
    | some q =>
    obtain ⟨ys, f⟩ := q
    have h2 := getMany_le hget n e h1.2 hy
    simp only [hy, Option.some.injEq, Prod.mk.injEq] at h
    obtain ⟨rfl, rfl⟩ := h
    simp only [List.length_cons]
    omega
theorem getList_le {α : Type} {l : List UInt8} {get : Int → Option (α × Nat)} (hget : ∀ (i : Nat) x c, get (i : Int) = some (x, c) → i < c ∧ c ≤ l.length) {i : Int} {xs : List α} {d : Nat} (h : getList l get i = some (xs, d)) : i < (d : Int) ∧ d ≤ l.length ∧ xs.length ≤ l.length := by
  unfold getList at h
  cases hx : getN l i with
  | none => simp [hx] at h
  | some p =>
  obtain ⟨n, c⟩ := p
  have h1 := getN_le hx
  simp only [hx] at h
  have h2 := getMany_le hget n c h1.2.2.2.1 h
  omega
theorem isList.mono {α : Type} [Cel α] {t : TypeId} {B B' : Nat} {xs : List α} {v : Value} {W : World} (h : isList t B xs v W) (hB : B' ≤ B) : isList t B' xs v W := by
  obtain ⟨a, c, rfl, ho⟩ := h
  refine ⟨a, c, rfl, ho.1, ?_⟩
  rcases ho.2 with hz | ⟨b, c', cur, e, hb, hblk, hr⟩
  · exact .inl hz
  · exact .inr ⟨b, c', cur, e, Nat.le_trans hB hb, hblk, hr⟩

end Go.Proofs.YtjjbbkmedpfenaaGreat.Gen

/-
  Items in memory: a list of items lies in a block, five cells an item; a slice value that holds a list of items. No condition.
-/
namespace Go.Proofs.YtjjbbkmedpfenaaGreat.Items
open Go.ChangeShapes Go.WideShapes Go.ChangeAt Go.RowKit Base
set_option linter.unusedVariables false

/-- An item as it is read. -/
structure It where
  off : Int
  key : ByteArray
  text : ByteArray
  who : Int
  time : Int

def It.cs (x : It) : List Value := [.int .i64 x.off, .string x.key, .string x.text, .int .i64 x.who, .int .i64 x.time]
def flat (l : List It) : List Value := l.flatMap It.cs

theorem It.cs_length (x : It) : x.cs.length = 5 := rfl
theorem flat_length (l : List It) : (flat l).length = l.length * 5 := by
  induction l with
  | nil => rfl
  | cons a l ih => simp only [flat, List.flatMap_cons, List.length_append, List.length_cons] at ih ⊢; rw [ih, It.cs_length]; omega
theorem flat_append (l m : List It) : flat (l ++ m) = flat l ++ flat m := by simp [flat]
theorem flat_one (x : It) : flat [x] = x.cs := by simp [flat]
theorem flat_cons (x : It) (l : List It) : flat (x :: l) = x.cs ++ flat l := by simp [flat]

theorem flat_get (l : List It) : ∀ (i : Nat) (h : i < l.length) (f : Nat), f < 5 → (flat l)[i * 5 + f]? = (l[i].cs)[f]? := by
  induction l with
  | nil => intro i h; simp at h
  | cons a l ih =>
    intro i h f hf
    rw [flat_cons]
    cases i with
    | zero => rw [List.getElem?_append_left (by rw [It.cs_length]; omega)]; simp
    | succ i =>
      rw [List.getElem?_append_right (by rw [It.cs_length]; omega), It.cs_length]
      have e : (i + 1) * 5 + f - 5 = i * 5 + f := by omega
      rw [e, ih i (by simpa using h) f hf]; simp

/-- The items l lie in block b from offset o on. -/
def In (w : World) (b o : Nat) (l : List It) : Prop := w.rangeAt b o (flat l)

theorem In.get {w : World} {b o : Nat} {l : List It} (h : In w b o l) (i : Nat) (hi : i < l.length) :
    w.cell? ⟨b, o + i * 5, none⟩ = some (.int .i64 l[i].off) ∧ w.cell? ⟨b, o + i * 5 + 1, none⟩ = some (.string l[i].key) ∧ w.cell? ⟨b, o + i * 5 + 2, none⟩ = some (.string l[i].text) ∧
    w.cell? ⟨b, o + i * 5 + 3, none⟩ = some (.int .i64 l[i].who) ∧ w.cell? ⟨b, o + i * 5 + 4, none⟩ = some (.int .i64 l[i].time) := by
  have g : ∀ f v, f < 5 → (l[i].cs)[f]? = some v → w.cell? ⟨b, o + (i * 5 + f), none⟩ = some v := fun f v hf hv => h (i * 5 + f) v (by rw [flat_get l i hi f hf]; exact hv)
  exact ⟨g 0 _ (by omega) rfl, g 1 _ (by omega) rfl, g 2 _ (by omega) rfl, g 3 _ (by omega) rfl, g 4 _ (by omega) rfl⟩

theorem In.below {w w' : World} {b o : Nat} {l : List It} (h : In w b o l) (hb : b < w.heap.size) (hw : Below w.heap.size w w') : In w' b o l :=
  fun j v hv => (hw.cell (p := ⟨b, o + j, none⟩) hb).trans (h j v hv)

/-- The slice value v holds the items l. -/
def Holds (w : World) (v : Value) (l : List It) : Prop :=
  ∃ (A : Option Addr) (c : Nat), v = .slice A l.length c ∧ l.length ≤ c ∧ (l = [] ∨ ∃ b o, A = some ⟨b, o, none⟩ ∧ b < w.heap.size ∧ In w b o l)

theorem Holds.below {w w' : World} {v : Value} {l : List It} (h : Holds w v l) (hw : Below w.heap.size w w') : Holds w' v l := by
  obtain ⟨A, c, rfl, hc, h⟩ := h
  refine ⟨A, c, rfl, hc, ?_⟩
  rcases h with h | ⟨b, o, rfl, hb, hi⟩
  · exact .inl h
  · exact .inr ⟨b, o, rfl, Nat.lt_of_lt_of_le hb hw.size, hi.below hb hw⟩
end Go.Proofs.YtjjbbkmedpfenaaGreat.Items

/-
  The laws' szItem, szItemS and szRow: what is left is told, and where it is not below 0 the row's lengths are bounded. No condition but the length that every text has.
-/
namespace Go.Proofs.YtjjbbkmedpfenaaGreat.Items
open Go.ChangeShapes Go.WideShapes Go.ChangeAt Go.RowKit Base
set_option linter.unusedVariables false

theorem via0 {a b c : World} (k : Below b.heap.size b c) (h : Below a.heap.size a b) : Below a.heap.size a c := h.trans (k.mono h.size)
theorem alloc0 {a b : World} (h : Below a.heap.size a b) (o : Obj) : Below a.heap.size a (b.alloc o) := h.alloc h.size o

def szI (k t : Nat) (left : Int) : Int := if left < k then -1 else if left < k + t then -1 else left - k - t

theorem szI_ge {k t : Nat} {left : Int} (h0 : 0 ≤ left) (h : 0 ≤ szI k t left) : szI k t left = left - k - t := by
  unfold szI at h ⊢
  split at h
  · omega
  · split at h
    · omega
    · rw [if_neg (by assumption), if_neg (by assumption)]

/-- The bytes of the items' texts. -/
def tot : List It → Nat
  | [] => 0
  | x :: l => x.key.size + x.text.size + tot l
theorem tot_append (l m : List It) : tot (l ++ m) = tot l + tot m := by
  induction l with
  | nil => simp [tot]
  | cons x l ih => simp only [List.cons_append, tot, ih]; omega
theorem tot_take {l : List It} {n : Nat} (h : n < l.length) : tot (l.take (n + 1)) = tot (l.take n) + (l[n].key.size + l[n].text.size) := by
  rw [List.take_succ_eq_append_getElem h, tot_append]; simp [tot]

end Go.Proofs.YtjjbbkmedpfenaaGreat.Items

/-
  The laws' toItem, toItemS and toRow: a row in new memory that holds the same items. No condition but that the items are at most 1048576.
-/
namespace Go.Proofs.YtjjbbkmedpfenaaGreat.Items
open Go.ChangeShapes Go.WideShapes Go.ChangeAt Go.RowKit Base
set_option linter.unusedVariables false

def zeroItem : Value := .agg #[.int .i64 0, .string ⟨#[]⟩, .string ⟨#[]⟩, .int .i64 0, .int .i64 0]
def zeros (n : Nat) : Array Value := madeCells zeroItem.cells (n * 5)

theorem infoItem : (Tryz.prog.info? 118).map (fun i => (i.zero, i.size, i.bytes)) = some (some zeroItem, 5, 56) := by kernel_rfl

theorem make_items (n : Nat) (hn : n ≤ 1048576) (w : World) :
    (Instr.makeSlice 65 (.int .i64 (n : Int)) (.int .i64 (n : Int))).run Tryz.prog w = .ok (.slice (some ⟨w.heap.size, 0, none⟩) n n) (w.alloc (.cells (zeros n) 118)) := by
  have h := infoItem
  cases hi : Tryz.prog.info? 118 with
  | none => rw [hi] at h; simp at h
  | some i =>
    rw [hi] at h
    simp only [Option.map_some, Option.some.injEq, Prod.mk.injEq] at h
    obtain ⟨hz, hs, hb⟩ := h
    have r := run_make (P := Tryz.prog) w 65 118 i zeroItem Tryz.underlying65 hi hz .i64 .i64 n n (by omega) (Int.le_refl _) (by rw [hb]; omega) (by omega)
    rw [r, hs]
    simp [zeros]

theorem zeros_size (n : Nat) : (zeros n).size = n * 5 := size_madeCells _ _

theorem rangeAt_append {w : World} {b o : Nat} {xs ys : List Value} (h1 : w.rangeAt b o xs) (h2 : w.rangeAt b (o + xs.length) ys) : w.rangeAt b o (xs ++ ys) := fun j v hv => by
  by_cases hj : j < xs.length
  · exact h1 j v (by rwa [List.getElem?_append_left hj] at hv)
  · rw [List.getElem?_append_right (by omega)] at hv
    have := h2 (j - xs.length) v hv
    have e : o + xs.length + (j - xs.length) = o + j := by omega
    rwa [e] at this

theorem there_below {w w' : World} {b o n : Nat} (h : w.there b o n) (hb : b < w.heap.size) (hw : Below w.heap.size w w') : w'.there b o n := fun j hj => by
  rw [hw.cell (p := ⟨b, o + j, none⟩) hb, hw.frozen (p := ⟨b, o + j, none⟩) hb]
  exact h j hj

/-- An item stored behind those that are there. -/
theorem store_item {w : World} {b : Nat} {l : List It} {n : Nat} (hin : In w b 0 (l.take n)) (hth : w.there b 0 (l.length * 5)) (hn : n < l.length) :
    In (w.setCells b (n * 5) l[n].cs) b 0 (l.take (n + 1)) ∧ (w.setCells b (n * 5) l[n].cs).there b 0 (l.length * 5) := by
  have hlen : (flat (l.take n)).length = n * 5 := by rw [flat_length, List.length_take]; omega
  refine ⟨?_, World.there_setCells hth _ _ _⟩
  unfold In
  rw [List.take_succ_eq_append_getElem hn, flat_append, flat_one]
  refine rangeAt_append (World.rangeAt_setCells_apart hin _ _ _ (.inr (.inl (by rw [hlen]; omega)))) ?_
  rw [hlen, Nat.zero_add]
  refine World.rangeAt_setCells_same _ _ _ _ fun j hj => ?_
  have hj' : j < 5 := hj
  have := hth (n * 5 + j) (by omega)
  rwa [Nat.zero_add] at this

theorem made_there (w : World) (n : Nat) : (w.alloc (.cells (zeros n) 118)).there w.heap.size 0 (n * 5) := fun j hj => by
  have : j < (zeros n).size := by rw [zeros_size]; exact hj
  simp [this]

theorem In.set {w : World} {b o : Nat} {l : List It} (h : In w b o l) (p : Addr) (v : Value) (hp : p.block ≠ b) : In (w.setCell p v) b o l := fun j u hu => by
  rw [World.cell?_setCell_other (h := fun e => hp (by rw [e]))]; exact h j u hu
theorem there_set {w : World} {b o n : Nat} (h : w.there b o n) (b' o' : Nat) (v : Value) : (w.setCell ⟨b', o', none⟩ v).there b o n := World.there_setCells h b' o' [v]

/-- What new memory holds: the slice value of the items l in a block that is not below B, and may be written. -/
def Fresh (B : Nat) (w : World) (v : Value) (l : List It) : Prop :=
  ∃ (A : Option Addr) (c : Nat), v = .slice A l.length c ∧ l.length ≤ c ∧ (l = [] ∨ ∃ b o, A = some ⟨b, o, none⟩ ∧ B ≤ b ∧ b < w.heap.size ∧ In w b o l ∧ w.there b o (l.length * 5))

theorem Fresh.below {B : Nat} {w w' : World} {v : Value} {l : List It} (h : Fresh B w v l) (hw : Below w.heap.size w w') : Fresh B w' v l := by
  obtain ⟨A, c, rfl, hc, h⟩ := h
  refine ⟨A, c, rfl, hc, ?_⟩
  rcases h with h | ⟨b, o, rfl, hB, hb, hi, ht⟩
  · exact .inl h
  · exact .inr ⟨b, o, rfl, hB, Nat.lt_of_lt_of_le hb hw.size, hi.below hb hw, there_below ht hb hw⟩

theorem Fresh.holds {B : Nat} {w : World} {v : Value} {l : List It} (h : Fresh B w v l) : Holds w v l := by
  obtain ⟨A, c, rfl, hc, h⟩ := h
  refine ⟨A, c, rfl, hc, ?_⟩
  rcases h with h | ⟨b, o, rfl, hB, hb, hi, ht⟩
  · exact .inl h
  · exact .inr ⟨b, o, rfl, hb, hi⟩

end Go.Proofs.YtjjbbkmedpfenaaGreat.Items

/-
  A laws.Row argument opened: its numbers, and its items as they lie. No condition.
-/
namespace Go.Proofs.YtjjbbkmedpfenaaGreat.Items
open Go.ChangeShapes Go.WideShapes Go.ChangeAt Go.RowKit Go.Joins Go.Deep Base
set_option linter.unusedVariables false

instance : Inhabited It := ⟨⟨0, ⟨#[]⟩, ⟨#[]⟩, 0, 0⟩⟩

/-- The items l lie where A leads. -/
abbrev At (w : World) (A : Option Addr) (l : List It) : Prop := l = [] ∨ ∃ b o, A = some ⟨b, o, none⟩ ∧ b < w.heap.size ∧ In w b o l
theorem At.below {w w' : World} {A : Option Addr} {l : List It} (h : At w A l) (hw : Below w.heap.size w w') : At w' A l :=
  h.imp id fun ⟨b, o, e, hb, hi⟩ => ⟨b, o, e, Nat.lt_of_lt_of_le hb hw.size, hi.below hb hw⟩

def I64 (x : Int) : Prop := -9223372036854775808 ≤ x ∧ x ≤ 9223372036854775807
theorem i64_of {x : Int} (hx : (Lit.int .i64 x).wf = true) : I64 x := by simpa [I64, Lit.wf, IntKind.min, IntKind.max, IntKind.signed, IntKind.bits] using hx
/-- What every item that is handed in keeps. -/
def It.right (x : It) : Prop := I64 x.off ∧ I64 x.who ∧ I64 x.time ∧ x.key.size ≤ 9223372036854775807 ∧ x.text.size ≤ 9223372036854775807

theorem fields_at {H : Type} {enc : TypeId × Value → H} {P : Program} {w : World} {base : Nat} {spare : Nat → Bool} {held : Bool} {t : TypeId} {fs : Array Field} {cs : List Value} {fuel : Nat} {x : DataW H × List MemPlace}
    (hs : P.underlying t = some (.struct fs)) (hone : oneCellFields P fs = true) (h : DataW.trod enc P w base spare held fuel t cs = some x) :
    ∃ n, ∀ (i : Nat) (f : Field), fs[i]? = some f → ∀ c, cs[i]? = some c → ∃ y, DataW.trod enc P w base spare held n f.type [c] = some y := by
  obtain ⟨xs, n, _, _, hl, hlen, hf⟩ := DataW.trod_struct hs h
  refine ⟨n, fun i f hi c hc => ?_⟩
  obtain ⟨o, k⟩ := hone_of hone i f hi
  have hlt : i < fs.size := (Array.getElem?_eq_some_iff.1 hi).1
  have g := hf i f hi
  rw [o, k] at g
  have e : cs.drop i = c :: cs.drop (i + 1) := by
    obtain ⟨h1, h2⟩ := List.getElem?_eq_some_iff.1 hc
    rw [List.drop_eq_getElem_cons h1, h2]
  rw [e] at g
  exact ⟨xs[i]'(by omega), by rw [← List.getElem?_eq_getElem]; simpa using g⟩

end Go.Proofs.YtjjbbkmedpfenaaGreat.Items
