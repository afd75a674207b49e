/-
  A text read: the specification's GetText, and the program's reader of texts. Condition: at most 1048576 bytes.
-/
import Derived.Test.YtfbbifdfjjkknaaDoorRd
import Derived.Laws.IdiomStrings
namespace Go.Proofs.YtfbbifdfjjkknaaDoor.Gen
open Go.ChangeShapes Go.WideShapes Go.ChangeAt Go.RowKit Go.Joins Go.Deep Base
set_option linter.unusedVariables false

/-- The text that begins at a place, and the place behind it. -/
def getT (l : List UInt8) (i : Int) : Option (ByteArray × Nat) := match getN l i with
  | some (n, c) => if c + n ≤ l.length then some (⟨((l.drop c).take n).toArray⟩, c + n) else none
  | none => none
def txtT (o : Option (ByteArray × Nat)) : Value := match o with
  | some (s, c) => .tuple #[.string s, .int .i64 (c : Int), .bool true]
  | none => .tuple #[.string ⟨#[]⟩, .int .i64 0, .bool false]
theorem getT_le {l : List UInt8} {i : Int} {s : ByteArray} {c : Nat} (h : getT l i = some (s, c)) : 0 ≤ i ∧ i < (c : Int) ∧ c ≤ l.length ∧ s.size ≤ l.length := by
  unfold getT at h
  split at h
  · rename_i n c' hg
    have := getN_le hg
    split at h
    · simp only [Option.some.injEq, Prod.mk.injEq] at h
      obtain ⟨rfl, rfl⟩ := h
      refine ⟨by omega, by omega, by omega, ?_⟩
      show ((l.drop c').take n).toArray.size ≤ _
      simp
      omega
    · cases h
  · cases h

/-- b[c:c+n] as a text. -/
theorem cut_txt {l : List UInt8} {b o cap c n : Nat} (hc : c + n ≤ l.length) (hcap : l.length ≤ cap) (hcm : cap ≤ 9223372036854775807) :
    ∃ a' : Addr, (∀ W : World, (Instr.slice 22 (.slice (some ⟨b, o, none⟩) l.length cap) (some (.int .i64 (c : Int))) (some (.int .i64 ((c : Int) + (n : Int)))) none).run Tryd.prog W = .ok (.slice (some a') n (cap - c)) W) ∧
      ∀ W : World, In W b o l → (convert 22 9 (.slice (some a') n (cap - c))).run Tryd.prog W = .ok (.string ⟨((l.drop c).take n).toArray⟩) W := by
  have hlen : ((l.drop c).take n).length = n := by simp; omega
  obtain ⟨i0, hi, hz0, hz1, hz2⟩ := info_parts infoB
  have hsz : ∀ W : World, (sizeOf 5).run Tryd.prog W = .ok 1 W := fun W => by simp [sizeOf, typeInfo, hi, hz1]
  have ht : ((c : Int) + (n : Int)).toNat - c = n := by omega
  by_cases he : cap = c
  · subst he
    obtain rfl : n = 0 := by omega
    refine ⟨⟨b, o, none⟩, fun W => ?_, fun W hA => ?_⟩
    · simp [Instr.slice, run_underlying Tryd.underlying22, Instr.sliceBounds, Instr.sliceBound, asIntOf, hsz]
    · have h := run_convert_bytes_back (P := Tryd.prog) W 22 9 5 ⟨b, o, none⟩ (cap - cap) [] Tryd.underlying22 Tryd.underlying5 Tryd.underlying9 (fun j hj => by simp at hj)
      simpa using h
  · refine ⟨⟨b, o + c, none⟩, fun W => ?_, fun W hA => ?_⟩
    · simp [Instr.slice, run_underlying Tryd.underlying22, Instr.sliceBounds, Instr.sliceBound, asIntOf, hsz, he]
      rw [if_pos ⟨by omega, by omega⟩, if_pos (by omega), ht, Addr.add_mid]
    · have h := run_convert_bytes_back (P := Tryd.prog) W 22 9 5 ⟨b, o + c, none⟩ (cap - c) ((l.drop c).take n) Tryd.underlying22 Tryd.underlying5 Tryd.underlying9 (fun j hj => by
        rw [Addr.add_mid]
        have hj' : j < n := by rwa [hlen] at hj
        have := hA.getB (c + j) (by omega)
        rw [← Nat.add_assoc] at this
        simpa using this)
      rwa [hlen] at h

set_option maxRecDepth 100000 in
set_option maxHeartbeats 2000000 in
theorem specGetText_any (A : Option Addr) (cap : Nat) (l : List UInt8) (hl : l.length ≤ 1048576) (hcap : l.length ≤ cap) (hcm : cap ≤ 9223372036854775807) (i : Int) (hi : I64 i) (w : World) (hA : At w A l) :
    Calls Tryd.prog 57 #[.slice A l.length cap, .int .i64 i] w fun e w' => e = .returned (txtT (getT l i)) ∧ w' = w := by
  have HA := hidP hA
  have hi' := hidP hi
  clear hA hi
  go_enter Tryd.func57, Tryd.ntmps57
  go_wp2_with fail
  refine (specGetNum_any A cap l hl i hi'.out _ HA.out).mono ?_
  rintro e w ⟨rfl, rfl⟩
  cases hg : getN l i with
  | none =>
    have hT : Hid (getT l i = none) := by show getT l i = none; unfold getT; rw [hg]
    simp only [numT]
    go_wp2
    exact bodyPost_ret (v := .tuple #[.string ⟨#[]⟩, .int .i64 0, .bool false]) (by simp [results, Tryd.results57, go_sem]) rfl ⟨by rw [hT.out]; rfl, rfl⟩
  | some x =>
    obtain ⟨n, c⟩ := x
    obtain ⟨g1, g2, g3, g4, g5⟩ := getN_le hg
    simp only [numT]
    obtain ⟨b, o, rfl, hbs, hin⟩ : ∃ b o, A = some ⟨b, o, none⟩ ∧ b < w.heap.size ∧ In w b o l := by
      rcases HA.out with h | h
      · subst h; simp at g4; omega
      · exact h
    by_cases hc : c + n ≤ l.length
    · have hT : Hid (getT l i = some (⟨((l.drop c).take n).toArray⟩, c + n)) := by show getT l i = _; unfold getT; rw [hg]; simp [hc]
      obtain ⟨a', hs, hv⟩ := cut_txt (b := b) (o := o) hc hcap hcm
      have hs1 := hs w
      have hv1 := hv w hin
      have hn1 : ¬ ((l.length : Int) - (c : Int) < (n : Int)) := by omega
      clear hs hv hin
      go_wp2
      exact bodyPost_ret (v := .tuple #[.string ⟨((l.drop c).take n).toArray⟩, .int .i64 ((c : Int) + (n : Int)), .bool true]) (by simp [results, Tryd.results57, go_sem]) rfl ⟨by rw [hT.out]; rfl, rfl⟩
    · have hT : Hid (getT l i = none) := by show getT l i = none; unfold getT; rw [hg]; simp [hc]
      have hn1 : ((l.length : Int) - (c : Int) < (n : Int)) := by omega
      clear hin
      go_wp2
      exact bodyPost_ret (v := .tuple #[.string ⟨#[]⟩, .int .i64 0, .bool false]) (by simp [results, Tryd.results57, go_sem]) rfl ⟨by rw [hT.out]; rfl, rfl⟩

set_option maxRecDepth 100000 in
set_option maxHeartbeats 2000000 in
theorem readTxt_any (r : Nat) (A : Option Addr) (cap : Nat) (l : List UInt8) (i : Int) (hl : l.length ≤ 1048576) (hcap : l.length ≤ cap) (hcm : cap ≤ 9223372036854775807) (w : World) (h : Rd w r A cap l i) :
    Calls Tryd.prog 41 #[.pointer (some ⟨r, 0, none⟩)] w fun e w' => Reads isTxt r A cap l w e w' (getT l i) := by
  have HR := hidP h
  clear h
  go_enter Tryd.func41, Tryd.ntmps41
  go_wp2_with fail
  refine (readNum_any r A cap l i hl _ HR.out).mono ?_
  intro e w1 h1
  cases hg : getN l i with
  | none =>
    have hT : Hid (getT l i = none) := by show getT l i = none; unfold getT; rw [hg]
    rw [hg] at h1
    obtain ⟨o1, t, v, rfl⟩ := h1
    refine ⟨rfl, ?_⟩
    rw [hT.out]
    exact ⟨o1, t, v, rfl⟩
  | some x =>
    obtain ⟨n, c⟩ := x
    rw [hg] at h1
    obtain ⟨o1, r1, v, rfl, rfl⟩ := h1
    obtain ⟨g1, g2, g3, g4, g5⟩ := getN_le hg
    obtain ⟨c0, c1⟩ := r1.box.row2
    have f1 := r1.box.thaw 1
    have q0 := r1.box.lt
    have HR1 := hidP r1
    have HO1 := hidP o1
    obtain ⟨b, o, rfl, hbs, hne, hin⟩ : ∃ b o, A = some ⟨b, o, none⟩ ∧ b < w1.heap.size ∧ b ≠ r ∧ In w1 b o l := by
      rcases r1.src with h | h
      · subst h; simp at g4; omega
      · exact h
    clear r1 o1
    by_cases hc : c + n ≤ l.length
    · have hT : Hid (getT l i = some (⟨((l.drop c).take n).toArray⟩, c + n)) := by show getT l i = _; unfold getT; rw [hg]; simp [hc]
      obtain ⟨a', hs, hv⟩ := cut_txt (b := b) (o := o) hc hcap hcm
      have hn1 : decide ((l.length : Int) - (c : Int) < (n : Int)) = false := by simp; omega
      have hn2 : ¬ ((l.length : Int) - (c : Int) < (n : Int)) := by omega
      have HV := hidP hv
      have HIn := hidP hin
      clear hin hv
      go_wp2_with fail
      go_quiet (fail)
      go_wp2_with fail
      have r2 := (HR1.out.drewN nq).goto ((c : Int) + (n : Int)) ⟨by omega, by omega⟩
      have o2 : Hid (Only r w ((w1.drewN nq).setCell ⟨r, 1, none⟩ (.int .i64 ((c : Int) + (n : Int))))) := (only_drewN HO1.out nq).set _ _
      have hin2 : In ((w1.drewN nq).setCell ⟨r, 1, none⟩ (.int .i64 ((c : Int) + (n : Int)))) b o l := (HIn.out.below hbs (below_drewN (Below.refl _ _) nq)).set _ _ (fun e => hne e.symm)
      have hb2 : b < ((w1.drewN nq).setCell ⟨r, 1, none⟩ (.int .i64 ((c : Int) + (n : Int)))).heap.size := by simpa using hbs
      clear c0 c1 f1 q0 HIn HR1 HO1 hbs
      generalize (w1.drewN nq).setCell ⟨r, 1, none⟩ (.int .i64 ((c : Int) + (n : Int))) = W2 at *
      obtain ⟨c0, c1⟩ := r2.box.row2
      have q0 := r2.box.lt
      have hv2 : ∀ m, (convert 22 9 (.slice (some a') n (cap - c))).run Tryd.prog (W2.drewN m) = .ok (.string ⟨((l.drop c).take n).toArray⟩) (W2.drewN m) := fun m => HV.out _ (hin2.below hb2 (below_drewN (Below.refl _ _) m))
      have hv3 := HV.out _ hin2
      have HR2 := hidP r2
      clear r2 hin2 HV
      go_quiet (fail)
      go_wp2
      go_ret
      rw [hT.out]
      exact ⟨only_drewN o2.out _, HR2.out.drewN _, _, rfl, rfl⟩
    · have hT : Hid (getT l i = none) := by show getT l i = none; unfold getT; rw [hg]; simp [hc]
      have hn1 : decide ((l.length : Int) - (c : Int) < (n : Int)) = true := by simp; omega
      have hn2 : ((l.length : Int) - (c : Int) < (n : Int)) := by omega
      go_wp2_with fail
      go_quiet (fail)
      go_wp2
      refine ⟨rfl, ?_⟩
      rw [hT.out]
      exact ⟨only_drewN HO1.out _, _, _, rfl⟩
end Go.Proofs.YtfbbifdfjjkknaaDoor.Gen
