/-
  The sum of bytes: by the specification and by the program, the same. Condition: at most 3000000 bytes.
-/
import Derived.Test.YtaefjifcnoiplaaGreatAnsList
import Derived.WalkSmall
namespace Go.Proofs.YtaefjifcnoiplaaGreat.Gen
open Go.ChangeShapes Go.WideShapes Go.ChangeAt Go.RowKit Go.Joins Go.Deep Base
set_option linter.unusedVariables false
def sumStep (p : Nat × Nat) (b : UInt8) : Nat × Nat := ((p.1 + b.toNat) % 65521, (p.2 + (p.1 + b.toNat) % 65521) % 65521)
def sumP (l : List UInt8) : Nat × Nat := l.foldl sumStep (1, 0)
def sumN (l : List UInt8) : Nat := (sumP l).2 * 65536 + (sumP l).1
theorem sumP_take {l : List UInt8} {n : Nat} (h : n < l.length) : sumP (l.take (n + 1)) = sumStep (sumP (l.take n)) l[n] := by
  unfold sumP
  rw [List.take_succ_eq_append_getElem h, List.foldl_append]
  rfl
theorem sumStep_lt (p : Nat × Nat) (b : UInt8) : (sumStep p b).1 < 65521 /\ (sumStep p b).2 < 65521 := ⟨Nat.mod_lt _ (by omega), Nat.mod_lt _ (by omega)⟩
theorem sumFold_lt : ∀ (l : List UInt8) (p : Nat × Nat), p.1 < 65521 /\ p.2 < 65521 -> (l.foldl sumStep p).1 < 65521 /\ (l.foldl sumStep p).2 < 65521
  | [], p, h => h
  | b :: l, p, _ => sumFold_lt l _ (sumStep_lt p b)
theorem sumP_lt (l : List UInt8) : (sumP l).1 < 65521 /\ (sumP l).2 < 65521 := sumFold_lt l (1, 0) ⟨by omega, by omega⟩
theorem sumN_lt (l : List UInt8) : sumN l < 4294967296 := by unfold sumN; have := sumP_lt l; omega
set_option maxRecDepth 100000 in
set_option maxHeartbeats 1000000 in
theorem specSum_any (A : Option Addr) (cap : Nat) (l : List UInt8) (hl : l.length <= 3000000) (w : World) (hA : At w A l) :
    Calls Tryz.prog 140 #[.slice A l.length cap] w fun e w' => e = .returned (.int .i64 (sumN l : Int)) /\ w' = w := by
  have HA := hidP hA
  clear hA
  go_enter Tryz.func140, Tryz.ntmps140
  go_wp2
  go_loopw [3, 4, 5] (fun vx vy vi W => ∃ (n x y : Nat), vi = .int .i64 (n : Int) /\ vx = .int .i64 (x : Int) /\ vy = .int .i64 (y : Int) /\ n <= l.length /\ x < 65521 /\ y < 65521 /\ Hid (sumP (l.take n) = (x, y)) /\ W = w) (fun _ _ vi _ => l.length - (intOf vi).toNat)
  case atStart => exact ⟨0, 1, 0, rfl, rfl, rfl, by omega, by omega, by omega, rfl, rfl⟩
  case round =>
    obtain ⟨n, x, y, rfl, rfl, rfl, hn, hx, hy, hs, rfl⟩ := hrel
    by_cases hlt : n < l.length
    . obtain ⟨b, o, rfl, hbs, hIn⟩ : ∃ b o, A = some ⟨b, o, none⟩ /\ b < wr.heap.size /\ In wr b o l := by
        rcases HA.out with h | h
        . subst h; simp at hlt
        . exact h
      have c0 := hIn.getB n hlt
      have hst : Hid (sumP (l.take (n + 1)) = ((x + l[n].toNat) % 65521, (y + (x + l[n].toNat) % 65521) % 65521)) := by show _ = _; rw [sumP_take hlt, hs.out]; rfl
      have hd2 : (l[n]).toNat < 256 := (l[n]).toNat_lt
      generalize (l[n]).toNat = d at *
      clear hIn hs
      go_wp2
      refine ⟨⟨n + 1, (x + d) % 65521, (y + (x + d) % 65521) % 65521, by go_num, ?_, ?_, by omega, by omega, by omega, hst, trivial⟩, by simp [intOf]; omega⟩
      . show Value.int .i64 _ = Value.int .i64 _
        congr 1
      . show Value.int .i64 _ = Value.int .i64 _
        congr 1
    . have e : l.take n = l := List.take_of_length_le (by omega)
      have hs' : Hid ((sumN l : Int) = (y : Int) * 65536 + (x : Int)) := by
        show _ = _
        have h := hs.out
        rw [e] at h
        unfold sumN
        rw [h]
        simp
      go_wp2
      go_ret
      exact ⟨by rw [hs'.out]; rfl, rfl⟩
set_option maxRecDepth 100000 in
set_option maxHeartbeats 1000000 in
theorem implSum_any (A : Option Addr) (cap : Nat) (l : List UInt8) (hl : l.length <= 3000000) (w : World) (hA : At w A l) :
    Calls Tryz.prog 123 #[.slice A l.length cap] w fun e w' => e = .returned (.int .i64 (sumN l : Int)) /\ w' = w := by
  have HA := hidP hA
  clear hA
  go_enter Tryz.func123, Tryz.ntmps123
  go_wp2
  go_loopw [3, 4, 9] (fun vx vy vi W => ∃ (n x y : Nat), vi = .int .i64 (n : Int) /\ vx = .int .i64 (x : Int) /\ vy = .int .i64 (y : Int) /\ n <= l.length /\ x < 65521 /\ y < 65521 /\ Hid (sumP (l.take n) = (x, y)) /\ W = w) (fun _ _ vi _ => l.length - (intOf vi).toNat)
  case atStart => exact ⟨0, 1, 0, rfl, rfl, rfl, by omega, by omega, by omega, rfl, rfl⟩
  case round =>
    obtain ⟨n, x, y, rfl, rfl, rfl, hn, hx, hy, hs, rfl⟩ := hrel
    by_cases hlt : n < l.length
    . obtain ⟨b, o, rfl, hbs, hIn⟩ : ∃ b o, A = some ⟨b, o, none⟩ /\ b < wr.heap.size /\ In wr b o l := by
        rcases HA.out with h | h
        . subst h; simp at hlt
        . exact h
      have c0 := hIn.getB n hlt
      have hst : Hid (sumP (l.take (n + 1)) = ((x + l[n].toNat) % 65521, (y + (x + l[n].toNat) % 65521) % 65521)) := by show _ = _; rw [sumP_take hlt, hs.out]; rfl
      have hd2 : (l[n]).toNat < 256 := (l[n]).toNat_lt
      generalize (l[n]).toNat = d at *
      clear hIn hs
      go_wp2
      refine ⟨⟨n + 1, (x + d) % 65521, (y + (x + d) % 65521) % 65521, by go_num, ?_, ?_, by omega, by omega, by omega, hst, trivial⟩, by simp [intOf]; omega⟩
      . show Value.int .i64 _ = Value.int .i64 _
        congr 1
      . show Value.int .i64 _ = Value.int .i64 _
        congr 1
    . have e : l.take n = l := List.take_of_length_le (by omega)
      have hs' : Hid ((sumN l : Int) = (y : Int) * 65536 + (x : Int)) := by
        show _ = _
        have h := hs.out
        rw [e] at h
        unfold sumN
        rw [h]
        simp
      go_wp2
      go_ret
      exact ⟨by rw [hs'.out]; rfl, rfl⟩
end Go.Proofs.YtaefjifcnoiplaaGreat.Gen
