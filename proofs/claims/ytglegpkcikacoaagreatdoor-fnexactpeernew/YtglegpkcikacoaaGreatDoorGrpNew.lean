/-
  GroupNew of the specification and of the program at this seat: they answer alike. No condition.
-/
import Derived.Test.YtglegpkcikacoaaGreatDoorPeCq
import Derived.Test.YtglegpkcikacoaaGreatDoorGrpOk
set_option linter.unusedVariables false
set_option linter.unusedSimpArgs false
set_option maxRecDepth 100000
set_option maxHeartbeats 8000000
namespace Go.Proofs.YtglegpkcikacoaaGreatDoor.Gen
open ChangeShapes WideShapes ChangeAt RowKit Joins Deep Base
def newO (rows : Int) : List Int := if inB rows 1 4 then List.replicate rows.toNat 0 else []
theorem newO_le (rows : Int) : (newO rows).length <= 4 := by
 unfold newO
 cases h : inB rows 1 4
 . simp
 . have : 1 <= rows /\ rows <= 4 := by simpa [inB] using h
   simp; omega
theorem made_in (w : World) (n : Nat) (t : TypeId) : In (w.alloc (.cells (madeCells #[Value.int .i64 0] n) t)) w.heap.size 0 (List.replicate n (0 : Int)) := by
 intro j v hv
 have hj : j < n := by
  have := (List.getElem?_eq_some_iff.1 hv).1
  rw [Qap, List.length_replicate] at this
  have e : n * Cel.k Int = n := Nat.mul_one n
  omega
 have hv' : v = .int .i64 0 := by
  have h2 := Qd3 (List.replicate n (0 : Int)) j (by simpa using hj) 0 (by show 0 < 1; omega)
  have e : j * Cel.k Int + 0 = j := by show j * 1 + 0 = j; omega
  rw [e, hv] at h2
  simpa [Cel.cs] using h2
 subst hv'
 rw [Nat.zero_add]
 have : j < (madeCells #[Value.int .i64 0] n).size := by rw [size_madeCells]; exact hj
 simp [this, madeCells]
 exact ⟨j, by simp [hj], by simp [Nat.mod_one]⟩
theorem Qjt (rows : Int) (w : World) : Calls Tryz.prog 38 #[.int .i64 rows] w fun e w' => ∃ (a : Option Addr) (c : Nat) (F : List Nat), e = .returned (.agg #[.int .i64 0, .slice none 0 0, .slice none 0 0, .slice a (newO rows).length c]) /\ Below w.heap.size w w' /\ Gp w' none none a [] [] (newO rows) F /\ ∀ x ∈ F, w.heap.size <= x := by
 cases hx : inB rows 1 4
 . have hF : Hid (newO rows = []) := by show _ = _; simp [newO, hx]
   go_enter Tryz.func38, Tryz.ntmps38
   go_wp2_with (go_at_call 11; refine (in_any _ _ _ _).mono ?_; rw [hx]; rintro e w1 ⟨rfl, rfl⟩)
   refine bodyPost_ret (v := .agg #[.int .i64 0, .slice none 0 0, .slice none 0 0, .slice none 0 0]) (by simp [results, Tryz.results38, go_sem]) rfl ?_
   rw [hF.out]
   exact ⟨none, 0, [], rfl, by repeat (first | exact Below.refl _ _ | assumption | refine via0 (by assumption) ?_ | refine Below.drew ?_ | refine Qaa ?_ _), ⟨[], [], [], rfl, Sl.nil _ _, Sl.nil _ _, Sl.nil _ _, by simp⟩, by simp⟩
 . obtain ⟨h1, h4⟩ : 1 <= rows /\ rows <= 4 := by simpa [inB] using hx
   obtain ⟨n, rfl⟩ : ∃ n : Nat, rows = n := ⟨rows.toNat, by omega⟩
   have hF : Hid (newO (n : Int) = List.replicate n 0) := by show _ = _; simp [newO, hx]
   have hmk := Qbk (P := Tryz.prog) Tryz.underlying30 Qcp (by omega) n (by omega)
   go_enter Tryz.func38, Tryz.ntmps38
   go_wp2_with (go_at_call 11; refine (in_any _ _ _ _).mono ?_; rw [hx]; rintro e w1 ⟨rfl, rfl⟩)
   refine bodyPost_ret (v := .agg #[.int .i64 0, .slice none 0 0, .slice none 0 0, .slice (some ⟨w.heap.size + 1, 0, none⟩) n n]) (by simp [results, Tryz.results38, go_sem]) rfl ?_
   rw [hF.out]
   refine ⟨some ⟨w.heap.size + 1, 0, none⟩, n, [w.heap.size + 1], by simp, by repeat (first | exact Below.refl _ _ | assumption | refine via0 (by assumption) ?_ | refine Below.drew ?_ | refine Qaa ?_ _), ⟨[], [], [w.heap.size + 1], rfl, Sl.nil _ _, Sl.nil _ _, .inr ⟨w.heap.size + 1, 0, rfl, rfl, by simp, ?_, ?_⟩, by simp⟩, by simp⟩
   . have := made_in (w.alloc (.cells #[.int .i64 0, .slice none 0 0, .slice none 0 0, .slice (some ⟨w.heap.size + 1, 0, none⟩) n n] 75)) n 3
     rwa [World.size_alloc] at this
   . have := Qdg (w.alloc (.cells #[.int .i64 0, .slice none 0 0, .slice none 0 0, .slice (some ⟨w.heap.size + 1, 0, none⟩) n n] 75)) #[Value.int .i64 0] n 1 3
     rw [World.size_alloc, Nat.mul_one] at this
     rw [List.length_replicate]
     show World.there _ _ _ (n * 1)
     rw [Nat.mul_one]
     exact this
theorem Qkh (rows : Int) (w : World) : Calls Tryz.prog 156 #[.int .i64 rows] w fun e w' => ∃ (a : Option Addr) (c : Nat) (F : List Nat), e = .returned (.agg #[.int .i64 0, .slice none 0 0, .slice none 0 0, .slice a (newO rows).length c]) /\ Below w.heap.size w w' /\ Gp w' none none a [] [] (newO rows) F /\ ∀ x ∈ F, w.heap.size <= x := by
 cases hx : inB rows 1 4
 . have hF : Hid (newO rows = []) := by show _ = _; simp [newO, hx]
   go_enter Tryz.func156, Tryz.ntmps156
   go_wp2_with (go_at_call 44; refine (within_any _ _ _ _).mono ?_; rw [hx]; rintro e w1 ⟨rfl, rfl⟩)
   refine bodyPost_ret (v := .agg #[.int .i64 0, .slice none 0 0, .slice none 0 0, .slice none 0 0]) (by simp [results, Tryz.results156, go_sem]) rfl ?_
   rw [hF.out]
   exact ⟨none, 0, [], rfl, by repeat (first | exact Below.refl _ _ | assumption | refine via0 (by assumption) ?_ | refine Below.drew ?_ | refine Qaa ?_ _), ⟨[], [], [], rfl, Sl.nil _ _, Sl.nil _ _, Sl.nil _ _, by simp⟩, by simp⟩
 . obtain ⟨h1, h4⟩ : 1 <= rows /\ rows <= 4 := by simpa [inB] using hx
   obtain ⟨n, rfl⟩ : ∃ n : Nat, rows = n := ⟨rows.toNat, by omega⟩
   have hF : Hid (newO (n : Int) = List.replicate n 0) := by show _ = _; simp [newO, hx]
   have hmk := Qbk (P := Tryz.prog) Tryz.underlying30 Qcp (by omega) n (by omega)
   go_enter Tryz.func156, Tryz.ntmps156
   go_wp2_with (go_at_call 44; refine (within_any _ _ _ _).mono ?_; rw [hx]; rintro e w1 ⟨rfl, rfl⟩)
   refine bodyPost_ret (v := .agg #[.int .i64 0, .slice none 0 0, .slice none 0 0, .slice (some ⟨w.heap.size + 1, 0, none⟩) n n]) (by simp [results, Tryz.results156, go_sem]) rfl ?_
   rw [hF.out]
   refine ⟨some ⟨w.heap.size + 1, 0, none⟩, n, [w.heap.size + 1], by simp, by repeat (first | exact Below.refl _ _ | assumption | refine via0 (by assumption) ?_ | refine Below.drew ?_ | refine Qaa ?_ _), ⟨[], [], [w.heap.size + 1], rfl, Sl.nil _ _, Sl.nil _ _, .inr ⟨w.heap.size + 1, 0, rfl, rfl, by simp, ?_, ?_⟩, by simp⟩, by simp⟩
   . have := made_in (w.alloc (.cells #[.int .i64 0, .slice none 0 0, .slice none 0 0, .slice (some ⟨w.heap.size + 1, 0, none⟩) n n] 75)) n 3
     rwa [World.size_alloc] at this
   . have := Qdg (w.alloc (.cells #[.int .i64 0, .slice none 0 0, .slice none 0 0, .slice (some ⟨w.heap.size + 1, 0, none⟩) n n] 75)) #[Value.int .i64 0] n 1 3
     rw [World.size_alloc, Nat.mul_one] at this
     rw [List.length_replicate]
     show World.there _ _ _ (n * 1)
     rw [Nat.mul_one]
     exact this
end Go.Proofs.YtglegpkcikacoaaGreatDoor.Gen
