/-
  Parts of CmdOk at this seat: numbers within limits, plain texts, names of Ops. No condition but the length that every text has.
-/
import Derived.Test.YtkmkldjipihceaaGreatBase
set_option linter.unusedVariables false
set_option linter.unusedSimpArgs false
set_option maxRecDepth 100000
set_option maxHeartbeats 8000000
set_option maxRecDepth 100000
set_option maxHeartbeats 8000000
namespace Go.Proofs.YtkmkldjipihceaaGreat.CmdOk
open ChangeShapes WideShapes ChangeAt RowKit Joins Base
abbrev opNs : Array Value := (Qf0 ⟨#[110, 111, 110, 101]⟩ ⟨#[112, 117, 116]⟩ ⟨#[103, 101, 116]⟩ ⟨#[101, 112, 111, 99, 104]⟩ ⟨#[106, 111, 105, 110]⟩ ⟨#[108, 101, 97, 118, 101]⟩ ⟨#[109, 97, 114, 107]⟩ ⟨#[114, 101, 97, 100]⟩ ⟨#[116, 105, 99, 107]⟩ ⟨#[116, 114, 105, 109]⟩ ⟨#[112, 97, 99, 107]⟩)
def opW (op : Int) : Array Value := opNs.setIfInBounds op.toNat (.string ⟨#[110, 111, 110, 101]⟩)
def inB (x lo hi : Int) : Bool := decide (lo <= x /\ x <= hi)
theorem in_any (x lo hi : Int) (w : World) :
 Calls Tryz.prog 32 (Qa4 x lo hi) w fun e w' => e = .returned (.bool (inB x lo hi)) /\ w' = w := by
 by_cases h1 : lo <= x<;>by_cases h2 : x <= hi <;>
 . go_enter Tryz.func32, Tryz.ntmps32
   go_wp2
   go_ret
   exact ⟨by simp [inB, h1, h2], rfl⟩
theorem within_any (x lo hi : Int) (w : World) :
 Calls Tryz.prog 89 (Qa4 x lo hi) w fun e w' => e = .returned (.bool (inB x lo hi)) /\ w' = w := by
 by_cases h1 : lo <= x<;>by_cases h2 : x <= hi <;>
 . go_enter Tryz.func89, Tryz.ntmps89
   go_wp2
   go_ret
   exact ⟨by simp [inB, h1, h2], rfl⟩
def Qbd (x : Nat) : Bool := decide ((97 <= x /\ x <= 122) ∨ (48 <= x /\ x <= 57) ∨ x = 32)
theorem Qch (x : Nat) :
 ((97 : Int) <= x /\ (x : Int) <= 122 /\ Qbd x = true) ∨ ((97 : Int) <= x /\ ¬ (x : Int) <= 122 /\ (48 : Int) <= x /\ ¬ (x : Int) <= 57 /\ ((x : Int) == 32) = false /\ Qbd x = false) ∨
 (¬ (97 : Int) <= x /\ (48 : Int) <= x /\ (x : Int) <= 57 /\ Qbd x = true) ∨ (¬ (97 : Int) <= x /\ (48 : Int) <= x /\ ¬ (x : Int) <= 57 /\ ((x : Int) == 32) = false /\ Qbd x = false) ∨
 (¬ (97 : Int) <= x /\ ¬ (48 : Int) <= x /\ ((x : Int) == 32) = true /\ Qbd x = true) ∨ (¬ (97 : Int) <= x /\ ¬ (48 : Int) <= x /\ ((x : Int) == 32) = false /\ Qbd x = false) := by
 simp only [beq_eq_false_iff_ne, beq_iff_eq, ne_eq, Qbd, decide_eq_true_eq, decide_eq_false_iff_not]
 omega
theorem Qcy (x : Nat) (w : World) :
 Calls Tryz.prog 129 #[.int .u8 (x : Int)] w fun e w' => e = .returned (.bool (Qbd x)) /\ w' = w := by
 rcases Qch x with ⟨h1, h2, hp⟩ | ⟨h1, h2, h3, h4, h5, hp⟩ | ⟨h1, h2, h3, hp⟩ | ⟨h1, h2, h3, h4, hp⟩ | ⟨h1, h2, h3, hp⟩ | ⟨h1, h2, h3, hp⟩ <;>
 . rw [hp]
   go_enter Tryz.func129, Tryz.ntmps129
   go_wp2
   go_ret
   exact ⟨rfl, rfl⟩
def Qam (s : ByteArray) (i : Nat) : Bool := (s.data.toList.drop i).all (fun x => Qbd x.toNat)
def textB (s : ByteArray) : Bool := Qam s 0 && decide (s.size <= 30)
theorem Qca {s : ByteArray} {i : Nat} (h : s.size <= i) : Qam s i = true := by
 have : s.data.toList.drop i = [] := List.drop_eq_nil_of_le (by simpa using h)
 simp [Qam, this]
theorem Qbz {s : ByteArray} {i : Nat} (h : i < s.size) : Qam s i = (Qbd (s[i]'h).toNat && Qam s (i + 1)) := by
 have h' : i < s.data.toList.length := by simpa using h
 unfold Qam
 rw [List.drop_eq_getElem_cons h', List.all_cons]
 rfl
theorem implText_any (s : ByteArray) (hs : s.size <= 9223372036854775807) (w : World) :
 Calls Tryz.prog 99 #[.string s] w fun e w' => e = .returned (.bool (textB s)) /\ Below w.heap.size w w' := by
 by_cases hl : (s.size : Int) > 30
 . have e1 : textB s = false := by simp [textB]; omega
   rw [e1]
   go_enter Tryz.func99, Tryz.ntmps99
   go_wp2
   go_ret
   exact ⟨rfl, Below.refl _ _⟩
 . have e1 : textB s = Qam s 0 := by simp [textB]; omega
   rw [e1]
   go_enter Tryz.func99, Tryz.ntmps99
   go_wp2
   go_loopw [3] (fun i w' => ∃ n : Nat, i = .int .i64 (n : Int) /\ n <= s.size /\ Qam s n = Qam s 0 /\ Below w.heap.size w w') (fun i _ => s.size - (intOf i).toNat)
   case atStart => exact ⟨0, rfl, by omega, rfl, Below.refl _ _⟩
   case round =>
    obtain ⟨n, rfl, hn, hE, hb⟩ := hrel
    by_cases hlt : n < s.size
    . have hst := Qbz hlt
      cases hp : Qbd s[n].toNat
      . have hE' : Qam s 0 = false := by rw [← hE, hst, hp]; rfl
        clear hE hst
        go_wp2_with (go_at_call 129; refine (Qcy _ _).mono ?_; rintro e w' ⟨rfl, rfl⟩)
        go_ret
        exact ⟨by first | rfl | (rw [hE']; rfl), hb⟩
      . have hE' : Qam s (n + 1) = Qam s 0 := by rw [← hE, hst, hp]; rfl
        clear hE hst
        go_wp2_with (go_at_call 129; refine (Qcy _ _).mono ?_; rintro e w' ⟨rfl, rfl⟩)
        exact ⟨⟨n + 1, by go_num, by omega, hE', hb⟩, by simp [intOf]; omega⟩
    . have hE' : Qam s 0 = true := by rw [← hE, Qca (by omega)]
      go_wp2
      go_ret
      exact ⟨by first | rfl | (rw [hE']; rfl), hb⟩
theorem specText_any (s : ByteArray) (hs : s.size <= 9223372036854775807) (w : World) :
 Calls Tryz.prog 82 #[.string s] w fun e w' => e = .returned (.bool (textB s)) /\ Below w.heap.size w w' := by
 go_enter Tryz.func82, Tryz.ntmps82
 go_wp2
 go_loopw [3] (fun i w' => ∃ n : Nat, i = .int .i64 (n : Int) /\ n <= s.size /\ Qam s n = Qam s 0 /\ Below w.heap.size w w') (fun i _ => s.size - (intOf i).toNat)
 case atStart => exact ⟨0, rfl, by omega, rfl, Below.refl _ _⟩
 case round =>
  obtain ⟨n, rfl, hn, hE, hb⟩ := hrel
  by_cases hlt : n < s.size
  . have hst := Qbz hlt
    rcases Qch s[n].toNat with ⟨h1, h2, hp⟩ | ⟨h1, h2, h3, h4, h5, hp⟩ | ⟨h1, h2, h3, hp⟩ | ⟨h1, h2, h3, h4, hp⟩ | ⟨h1, h2, h3, hp⟩ | ⟨h1, h2, h3, hp⟩
    . have hE' : Qam s (n + 1) = Qam s 0 := by rw [← hE, hst, hp]; rfl
      clear hE hst hp
      go_wp2
      exact ⟨⟨n + 1, by go_num, by omega, hE', hb⟩, by simp [intOf]; omega⟩
    . have hE' : textB s = false := by
       have h0 : Qam s 0 = false := by rw [← hE, hst, hp]; rfl
       simp [textB, h0]
      clear hE hst hp
      go_wp2
      go_ret
      exact ⟨by first | rfl | (rw [hE']; rfl), hb⟩
    . have hE' : Qam s (n + 1) = Qam s 0 := by rw [← hE, hst, hp]; rfl
      clear hE hst hp
      go_wp2
      exact ⟨⟨n + 1, by go_num, by omega, hE', hb⟩, by simp [intOf]; omega⟩
    . have hE' : textB s = false := by
       have h0 : Qam s 0 = false := by rw [← hE, hst, hp]; rfl
       simp [textB, h0]
      clear hE hst hp
      go_wp2
      go_ret
      exact ⟨by first | rfl | (rw [hE']; rfl), hb⟩
    . have hE' : Qam s (n + 1) = Qam s 0 := by rw [← hE, hst, hp]; rfl
      clear hE hst hp
      go_wp2
      exact ⟨⟨n + 1, by go_num, by omega, hE', hb⟩, by simp [intOf]; omega⟩
    . have hE' : textB s = false := by
       have h0 : Qam s 0 = false := by rw [← hE, hst, hp]; rfl
       simp [textB, h0]
      clear hE hst hp
      go_wp2
      go_ret
      exact ⟨by first | rfl | (rw [hE']; rfl), hb⟩
  . have hE' : Qam s 0 = true := by rw [← hE, Qca (by omega)]
    have hE2 : textB s = decide (s.size <= 30) := by simp [textB, hE']
    by_cases hl : (s.size : Int) <= 30
    . have : s.size <= 30 := by omega
      go_wp2
      go_ret
      exact ⟨by first | (rw [hE2]; simp [this]; done) | simp, hb⟩
    . have : ¬ s.size <= 30 := by omega
      go_wp2
      go_ret
      exact ⟨by first | (rw [hE2]; simp [this]; done) | simp, hb⟩
theorem Qgv (w : World) :
 Calls Tryz.prog 127 #[] w fun e w' => e = .returned (.agg opNs) /\ Below w.heap.size w w' := by
 go_enter Tryz.func127, Tryz.ntmps127
 go_wp2
 exact bodyPost_ret (v := .agg opNs) (by simp [results, Tryz.results127, go_sem]) rfl
  ⟨rfl, by repeat (first | exact Below.refl _ _ | refine Below.drew ?_ | refine Below.alloc ?_ (by simp<;>omega) _)⟩
theorem Qgu (op : Int) (w : World) :
 Calls Tryz.prog 150 #[.agg opNs, .int .i64 op] w fun e w' => e = .returned (.bool (inB op 0 10)) /\ w' = w.alloc (.cells opNs 198) := by
 go_enter Tryz.func150, Tryz.ntmps150
 go_wp2_with (go_at_call 89; refine (within_any _ _ _ _).mono ?_; rintro e w' ⟨rfl, rfl⟩)
 go_ret
 exact ⟨rfl, rfl⟩
theorem Qhk (op : Int) (h : inB op 0 10 = false) (w : World) :
 Calls Tryz.prog 128 #[.agg opNs, .int .i64 op] w fun e w' => e = .returned (.agg opNs) /\ Below w.heap.size w w' := by
 go_enter Tryz.func128, Tryz.ntmps128
 go_wp2_with (go_at_call 150; refine (Qgu _ _).mono ?_; rintro e w1 ⟨rfl, rfl⟩)
 exact bodyPost_ret (v := .agg opNs) (by simp [results, Tryz.results128, go_sem]) rfl
  ⟨rfl, by repeat (first | exact Below.refl _ _ | (refine via (by assumption) (by first | omega | (simp; done) | (simp; omega)) ?_) | refine Below.drew ?_ | refine Below.setCell ?_ (by first | omega | (simp; done) | (simp; omega)) _ | refine Below.alloc ?_ (by first | omega | (simp; done) | (simp; omega)) _)⟩
theorem op_ways (op : Int) : inB op 0 10 = false ∨ op = 0 ∨ op = 1 ∨ op = 2 ∨ op = 3 ∨ op = 4 ∨ op = 5 ∨ op = 6 ∨ op = 7 ∨ op = 8 ∨ op = 9 ∨ op = 10 := by
 simp only [inB, decide_eq_false_iff_not]
 omega
theorem without_in (op : Int) (h : inB op 0 10 = true) (w : World) :
 Calls Tryz.prog 128 #[.agg opNs, .int .i64 op] w fun e w' => e = .returned (.agg (opW op)) /\ Below w.heap.size w w' := by
 rcases op_ways op with h' | rfl | rfl | rfl | rfl | rfl | rfl | rfl | rfl | rfl | rfl | rfl
 . rw [h] at h'; cases h'
 all_goals
  go_enter Tryz.func128, Tryz.ntmps128
  go_wp2_with (go_at_call 150; refine (Qgu _ _).mono ?_; rintro e w1 ⟨rfl, rfl⟩)
  exact bodyPost_ret (v := .agg (opW _)) (by simp [results, Tryz.results128, go_sem]; try rfl) rfl
   ⟨rfl, by repeat (first | exact Below.refl _ _ | (refine via (by assumption) (by first | omega | (simp; done) | (simp; omega)) ?_) | refine Below.drew ?_ | refine Below.setCell ?_ (by first | omega | (simp; done) | (simp; omega)) _ | refine Below.alloc ?_ (by first | omega | (simp; done) | (simp; omega)) _)⟩
end Go.Proofs.YtkmkldjipihceaaGreat.CmdOk
