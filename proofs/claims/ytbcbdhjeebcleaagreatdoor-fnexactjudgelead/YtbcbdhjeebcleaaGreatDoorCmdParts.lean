/-
  Parts of CmdOk at this seat: numbers within limits, plain texts, names of Ops. No condition but the length that every text has.
-/
import Derived.Test.YtbcbdhjeebcleaaGreatDoorBase
set_option linter.unusedVariables false
set_option linter.unusedSimpArgs false
set_option maxRecDepth 100000
set_option maxHeartbeats 8000000
namespace Go.Proofs.YtbcbdhjeebcleaaGreatDoor.CmdOk
open ChangeShapes WideShapes ChangeAt RowKit Joins Base
def inB (x lo hi : Int) : Bool := decide (lo <= x /\ x <= hi)
theorem in_any (x lo hi : Int) (w : World) :
 Calls Tryz.prog 34 #[.int .i64 x, .int .i64 lo, .int .i64 hi] w fun e w' => e = .returned (.bool (inB x lo hi)) /\ w' = w := by
 by_cases h1 : lo <= x<;>by_cases h2 : x <= hi <;>
 . go_enter Tryz.func34, Tryz.ntmps34
   go_wp2
   go_ret
   exact ⟨by simp [inB, h1, h2], rfl⟩
theorem within_any (x lo hi : Int) (w : World) :
 Calls Tryz.prog 112 #[.int .i64 x, .int .i64 lo, .int .i64 hi] w fun e w' => e = .returned (.bool (inB x lo hi)) /\ w' = w := by
 by_cases h1 : lo <= x<;>by_cases h2 : x <= hi <;>
 . go_enter Tryz.func112, Tryz.ntmps112
   go_wp2
   go_ret
   exact ⟨by simp [inB, h1, h2], rfl⟩
def Qaw (x : Nat) : Bool := decide ((97 <= x /\ x <= 122) ∨ (48 <= x /\ x <= 57) ∨ x = 32)
theorem Qby (x : Nat) :
 ((97 : Int) <= x /\ (x : Int) <= 122 /\ Qaw x = true) ∨ ((97 : Int) <= x /\ ¬ (x : Int) <= 122 /\ (48 : Int) <= x /\ ¬ (x : Int) <= 57 /\ ((x : Int) == 32) = false /\ Qaw x = false) ∨
 (¬ (97 : Int) <= x /\ (48 : Int) <= x /\ (x : Int) <= 57 /\ Qaw x = true) ∨ (¬ (97 : Int) <= x /\ (48 : Int) <= x /\ ¬ (x : Int) <= 57 /\ ((x : Int) == 32) = false /\ Qaw x = false) ∨
 (¬ (97 : Int) <= x /\ ¬ (48 : Int) <= x /\ ((x : Int) == 32) = true /\ Qaw x = true) ∨ (¬ (97 : Int) <= x /\ ¬ (48 : Int) <= x /\ ((x : Int) == 32) = false /\ Qaw x = false) := by
 simp only [beq_eq_false_iff_ne, beq_iff_eq, ne_eq, Qaw, decide_eq_true_eq, decide_eq_false_iff_not]
 omega
theorem Qb9 (x : Nat) (w : World) :
 Calls Tryz.prog 143 #[.int .u8 (x : Int)] w fun e w' => e = .returned (.bool (Qaw x)) /\ w' = w := by
 rcases Qby x with ⟨h1, h2, hp⟩ | ⟨h1, h2, h3, h4, h5, hp⟩ | ⟨h1, h2, h3, hp⟩ | ⟨h1, h2, h3, h4, hp⟩ | ⟨h1, h2, h3, hp⟩ | ⟨h1, h2, h3, hp⟩ <;>
 . rw [hp]
   go_enter Tryz.func143, Tryz.ntmps143
   go_wp2
   go_ret
   exact ⟨rfl, rfl⟩
def Qae (s : ByteArray) (i : Nat) : Bool := (s.data.toList.drop i).all (fun x => Qaw x.toNat)
def textB (s : ByteArray) : Bool := Qae s 0 && decide (s.size <= 30)
theorem Qbt {s : ByteArray} {i : Nat} (h : s.size <= i) : Qae s i = true := by
 have : s.data.toList.drop i = [] := List.drop_eq_nil_of_le (by simpa using h)
 simp [Qae, this]
theorem Qbk {s : ByteArray} {i : Nat} (h : i < s.size) : Qae s i = (Qaw (s[i]'h).toNat && Qae s (i + 1)) := by
 have h' : i < s.data.toList.length := by simpa using h
 unfold Qae
 rw [List.drop_eq_getElem_cons h', List.all_cons]
 rfl
theorem implText_any (s : ByteArray) (hs : s.size <= 9223372036854775807) (w : World) :
 Calls Tryz.prog 122 #[.string s] w fun e w' => e = .returned (.bool (textB s)) /\ Below w.heap.size w w' := by
 by_cases hl : (s.size : Int) > 30
 . have e1 : textB s = false := by simp [textB]; omega
   rw [e1]
   go_enter Tryz.func122, Tryz.ntmps122
   go_wp2
   go_ret
   exact ⟨rfl, Below.refl _ _⟩
 . have e1 : textB s = Qae s 0 := by simp [textB]; omega
   rw [e1]
   go_enter Tryz.func122, Tryz.ntmps122
   go_wp2
   go_loopw [3] (fun i w' => ∃ n : Nat, i = .int .i64 (n : Int) /\ n <= s.size /\ Qae s n = Qae s 0 /\ Below w.heap.size w w') (fun i _ => s.size - (intOf i).toNat)
   case atStart => exact ⟨0, rfl, by omega, rfl, Below.refl _ _⟩
   case round =>
    obtain ⟨n, rfl, hn, hE, hb⟩ := hrel
    by_cases hlt : n < s.size
    . have hst := Qbk hlt
      cases hp : Qaw s[n].toNat
      . have hE' : Qae s 0 = false := by rw [← hE, hst, hp]; rfl
        clear hE hst
        go_wp2_with (go_at_call 143; refine (Qb9 _ _).mono ?_; rintro e w' ⟨rfl, rfl⟩)
        go_ret
        exact ⟨by first | rfl | (rw [hE']; rfl), hb⟩
      . have hE' : Qae s (n + 1) = Qae s 0 := by rw [← hE, hst, hp]; rfl
        clear hE hst
        go_wp2_with (go_at_call 143; refine (Qb9 _ _).mono ?_; rintro e w' ⟨rfl, rfl⟩)
        exact ⟨⟨n + 1, by go_num, by omega, hE', hb⟩, by simp [intOf]; omega⟩
    . have hE' : Qae s 0 = true := by rw [← hE, Qbt (by omega)]
      go_wp2
      go_ret
      exact ⟨by first | rfl | (rw [hE']; rfl), hb⟩
theorem specText_any (s : ByteArray) (hs : s.size <= 9223372036854775807) (w : World) :
 Calls Tryz.prog 64 #[.string s] w fun e w' => e = .returned (.bool (textB s)) /\ Below w.heap.size w w' := by
 go_enter Tryz.func64, Tryz.ntmps64
 go_wp2
 go_loopw [3] (fun i w' => ∃ n : Nat, i = .int .i64 (n : Int) /\ n <= s.size /\ Qae s n = Qae s 0 /\ Below w.heap.size w w') (fun i _ => s.size - (intOf i).toNat)
 case atStart => exact ⟨0, rfl, by omega, rfl, Below.refl _ _⟩
 case round =>
  obtain ⟨n, rfl, hn, hE, hb⟩ := hrel
  by_cases hlt : n < s.size
  . have hst := Qbk hlt
    rcases Qby s[n].toNat with ⟨h1, h2, hp⟩ | ⟨h1, h2, h3, h4, h5, hp⟩ | ⟨h1, h2, h3, hp⟩ | ⟨h1, h2, h3, h4, hp⟩ | ⟨h1, h2, h3, hp⟩ | ⟨h1, h2, h3, hp⟩
    . have hE' : Qae s (n + 1) = Qae s 0 := by rw [← hE, hst, hp]; rfl
      clear hE hst hp
      go_wp2
      exact ⟨⟨n + 1, by go_num, by omega, hE', hb⟩, by simp [intOf]; omega⟩
    . have hE' : textB s = false := by
       have h0 : Qae s 0 = false := by rw [← hE, hst, hp]; rfl
       simp [textB, h0]
      clear hE hst hp
      go_wp2
      go_ret
      exact ⟨by first | rfl | (rw [hE']; rfl), hb⟩
    . have hE' : Qae s (n + 1) = Qae s 0 := by rw [← hE, hst, hp]; rfl
      clear hE hst hp
      go_wp2
      exact ⟨⟨n + 1, by go_num, by omega, hE', hb⟩, by simp [intOf]; omega⟩
    . have hE' : textB s = false := by
       have h0 : Qae s 0 = false := by rw [← hE, hst, hp]; rfl
       simp [textB, h0]
      clear hE hst hp
      go_wp2
      go_ret
      exact ⟨by first | rfl | (rw [hE']; rfl), hb⟩
    . have hE' : Qae s (n + 1) = Qae s 0 := by rw [← hE, hst, hp]; rfl
      clear hE hst hp
      go_wp2
      exact ⟨⟨n + 1, by go_num, by omega, hE', hb⟩, by simp [intOf]; omega⟩
    . have hE' : textB s = false := by
       have h0 : Qae s 0 = false := by rw [← hE, hst, hp]; rfl
       simp [textB, h0]
      clear hE hst hp
      go_wp2
      go_ret
      exact ⟨by first | rfl | (rw [hE']; rfl), hb⟩
  . have hE' : Qae s 0 = true := by rw [← hE, Qbt (by omega)]
    have hE2 : textB s = decide (s.size <= 30) := by simp [textB, hE']
    by_cases hl : (s.size : Int) <= 30
    . have : s.size <= 30 := by omega
      go_wp2
      go_ret
      exact ⟨by first | (rw [hE2]; simp [this]; done) | simp, hb⟩
    . have : ¬ s.size <= 30 := by omega
      go_wp2
      go_ret
      exact ⟨by first | (rw [hE2]; simp [this]; done) | simp, hb⟩
theorem Qas (w : World) :
 Calls Tryz.prog 141 #[] w fun e w' => e = .returned (.agg #[.string ⟨#[110, 111, 110, 101]⟩, .string ⟨#[112, 117, 116]⟩, .string ⟨#[103, 101, 116]⟩, .string ⟨#[101, 112, 111, 99, 104]⟩, .string ⟨#[106, 111, 105, 110]⟩, .string ⟨#[108, 101, 97, 118, 101]⟩, .string ⟨#[109, 97, 114, 107]⟩, .string ⟨#[114, 101, 97, 100]⟩, .string ⟨#[116, 105, 99, 107]⟩, .string ⟨#[116, 114, 105, 109]⟩, .string ⟨#[112, 97, 99, 107]⟩]) /\ Below w.heap.size w w' := by
 go_enter Tryz.func141, Tryz.ntmps141
 go_wp2
 exact bodyPost_ret (v := .agg #[.string ⟨#[110, 111, 110, 101]⟩, .string ⟨#[112, 117, 116]⟩, .string ⟨#[103, 101, 116]⟩, .string ⟨#[101, 112, 111, 99, 104]⟩, .string ⟨#[106, 111, 105, 110]⟩, .string ⟨#[108, 101, 97, 118, 101]⟩, .string ⟨#[109, 97, 114, 107]⟩, .string ⟨#[114, 101, 97, 100]⟩, .string ⟨#[116, 105, 99, 107]⟩, .string ⟨#[116, 114, 105, 109]⟩, .string ⟨#[112, 97, 99, 107]⟩]) (by simp [results, Tryz.results141, go_sem]) rfl
  ⟨rfl, by repeat (first | exact Below.refl _ _ | refine Below.drew ?_ | refine Below.alloc ?_ (by simp<;>omega) _)⟩
theorem Qar (op : Int) (w : World) :
 Calls Tryz.prog 159 #[.agg #[.string ⟨#[110, 111, 110, 101]⟩, .string ⟨#[112, 117, 116]⟩, .string ⟨#[103, 101, 116]⟩, .string ⟨#[101, 112, 111, 99, 104]⟩, .string ⟨#[106, 111, 105, 110]⟩, .string ⟨#[108, 101, 97, 118, 101]⟩, .string ⟨#[109, 97, 114, 107]⟩, .string ⟨#[114, 101, 97, 100]⟩, .string ⟨#[116, 105, 99, 107]⟩, .string ⟨#[116, 114, 105, 109]⟩, .string ⟨#[112, 97, 99, 107]⟩], .int .i64 op] w fun e w' => e = .returned (.bool (inB op 0 10)) /\ w' = w.alloc (.cells #[.string ⟨#[110, 111, 110, 101]⟩, .string ⟨#[112, 117, 116]⟩, .string ⟨#[103, 101, 116]⟩, .string ⟨#[101, 112, 111, 99, 104]⟩, .string ⟨#[106, 111, 105, 110]⟩, .string ⟨#[108, 101, 97, 118, 101]⟩, .string ⟨#[109, 97, 114, 107]⟩, .string ⟨#[114, 101, 97, 100]⟩, .string ⟨#[116, 105, 99, 107]⟩, .string ⟨#[116, 114, 105, 109]⟩, .string ⟨#[112, 97, 99, 107]⟩] 260) := by
 go_enter Tryz.func159, Tryz.ntmps159
 go_wp2_with (go_at_call 112; refine (within_any _ _ _ _).mono ?_; rintro e w' ⟨rfl, rfl⟩)
 go_ret
 exact ⟨rfl, rfl⟩
theorem Qhg (op : Int) (h : inB op 0 10 = false) (w : World) :
 Calls Tryz.prog 142 #[.agg #[.string ⟨#[110, 111, 110, 101]⟩, .string ⟨#[112, 117, 116]⟩, .string ⟨#[103, 101, 116]⟩, .string ⟨#[101, 112, 111, 99, 104]⟩, .string ⟨#[106, 111, 105, 110]⟩, .string ⟨#[108, 101, 97, 118, 101]⟩, .string ⟨#[109, 97, 114, 107]⟩, .string ⟨#[114, 101, 97, 100]⟩, .string ⟨#[116, 105, 99, 107]⟩, .string ⟨#[116, 114, 105, 109]⟩, .string ⟨#[112, 97, 99, 107]⟩], .int .i64 op] w fun e w' => e = .returned (.agg #[.string ⟨#[110, 111, 110, 101]⟩, .string ⟨#[112, 117, 116]⟩, .string ⟨#[103, 101, 116]⟩, .string ⟨#[101, 112, 111, 99, 104]⟩, .string ⟨#[106, 111, 105, 110]⟩, .string ⟨#[108, 101, 97, 118, 101]⟩, .string ⟨#[109, 97, 114, 107]⟩, .string ⟨#[114, 101, 97, 100]⟩, .string ⟨#[116, 105, 99, 107]⟩, .string ⟨#[116, 114, 105, 109]⟩, .string ⟨#[112, 97, 99, 107]⟩]) /\ Below w.heap.size w w' := by
 go_enter Tryz.func142, Tryz.ntmps142
 go_wp2_with (go_at_call 159; refine (Qar _ _).mono ?_; rintro e w1 ⟨rfl, rfl⟩)
 exact bodyPost_ret (v := .agg #[.string ⟨#[110, 111, 110, 101]⟩, .string ⟨#[112, 117, 116]⟩, .string ⟨#[103, 101, 116]⟩, .string ⟨#[101, 112, 111, 99, 104]⟩, .string ⟨#[106, 111, 105, 110]⟩, .string ⟨#[108, 101, 97, 118, 101]⟩, .string ⟨#[109, 97, 114, 107]⟩, .string ⟨#[114, 101, 97, 100]⟩, .string ⟨#[116, 105, 99, 107]⟩, .string ⟨#[116, 114, 105, 109]⟩, .string ⟨#[112, 97, 99, 107]⟩]) (by simp [results, Tryz.results142, go_sem]) rfl
  ⟨rfl, by repeat (first | exact Below.refl _ _ | (refine via (by assumption) (by first | omega | (simp; done) | (simp; omega)) ?_) | refine Below.drew ?_ | refine Below.setCell ?_ (by first | omega | (simp; done) | (simp; omega)) _ | refine Below.alloc ?_ (by first | omega | (simp; done) | (simp; omega)) _)⟩
theorem without_0 (w : World) :
 Calls Tryz.prog 142 #[.agg #[.string ⟨#[110, 111, 110, 101]⟩, .string ⟨#[112, 117, 116]⟩, .string ⟨#[103, 101, 116]⟩, .string ⟨#[101, 112, 111, 99, 104]⟩, .string ⟨#[106, 111, 105, 110]⟩, .string ⟨#[108, 101, 97, 118, 101]⟩, .string ⟨#[109, 97, 114, 107]⟩, .string ⟨#[114, 101, 97, 100]⟩, .string ⟨#[116, 105, 99, 107]⟩, .string ⟨#[116, 114, 105, 109]⟩, .string ⟨#[112, 97, 99, 107]⟩], .int .i64 0] w fun e w' => e = .returned (.agg #[.string ⟨#[110, 111, 110, 101]⟩, .string ⟨#[112, 117, 116]⟩, .string ⟨#[103, 101, 116]⟩, .string ⟨#[101, 112, 111, 99, 104]⟩, .string ⟨#[106, 111, 105, 110]⟩, .string ⟨#[108, 101, 97, 118, 101]⟩, .string ⟨#[109, 97, 114, 107]⟩, .string ⟨#[114, 101, 97, 100]⟩, .string ⟨#[116, 105, 99, 107]⟩, .string ⟨#[116, 114, 105, 109]⟩, .string ⟨#[112, 97, 99, 107]⟩]) /\ Below w.heap.size w w' := by
 have h : inB 0 0 10 = true := by decide
 go_enter Tryz.func142, Tryz.ntmps142
 go_wp2_with (go_at_call 159; refine (Qar _ _).mono ?_; rintro e w1 ⟨rfl, rfl⟩)
 exact bodyPost_ret (v := .agg #[.string ⟨#[110, 111, 110, 101]⟩, .string ⟨#[112, 117, 116]⟩, .string ⟨#[103, 101, 116]⟩, .string ⟨#[101, 112, 111, 99, 104]⟩, .string ⟨#[106, 111, 105, 110]⟩, .string ⟨#[108, 101, 97, 118, 101]⟩, .string ⟨#[109, 97, 114, 107]⟩, .string ⟨#[114, 101, 97, 100]⟩, .string ⟨#[116, 105, 99, 107]⟩, .string ⟨#[116, 114, 105, 109]⟩, .string ⟨#[112, 97, 99, 107]⟩]) (by simp [results, Tryz.results142, go_sem]) rfl
  ⟨rfl, by repeat (first | exact Below.refl _ _ | (refine via (by assumption) (by first | omega | (simp; done) | (simp; omega)) ?_) | refine Below.drew ?_ | refine Below.setCell ?_ (by first | omega | (simp; done) | (simp; omega)) _ | refine Below.alloc ?_ (by first | omega | (simp; done) | (simp; omega)) _)⟩
theorem without_1 (w : World) :
 Calls Tryz.prog 142 #[.agg #[.string ⟨#[110, 111, 110, 101]⟩, .string ⟨#[112, 117, 116]⟩, .string ⟨#[103, 101, 116]⟩, .string ⟨#[101, 112, 111, 99, 104]⟩, .string ⟨#[106, 111, 105, 110]⟩, .string ⟨#[108, 101, 97, 118, 101]⟩, .string ⟨#[109, 97, 114, 107]⟩, .string ⟨#[114, 101, 97, 100]⟩, .string ⟨#[116, 105, 99, 107]⟩, .string ⟨#[116, 114, 105, 109]⟩, .string ⟨#[112, 97, 99, 107]⟩], .int .i64 1] w fun e w' => e = .returned (.agg #[.string ⟨#[110, 111, 110, 101]⟩, .string ⟨#[110, 111, 110, 101]⟩, .string ⟨#[103, 101, 116]⟩, .string ⟨#[101, 112, 111, 99, 104]⟩, .string ⟨#[106, 111, 105, 110]⟩, .string ⟨#[108, 101, 97, 118, 101]⟩, .string ⟨#[109, 97, 114, 107]⟩, .string ⟨#[114, 101, 97, 100]⟩, .string ⟨#[116, 105, 99, 107]⟩, .string ⟨#[116, 114, 105, 109]⟩, .string ⟨#[112, 97, 99, 107]⟩]) /\ Below w.heap.size w w' := by
 have h : inB 1 0 10 = true := by decide
 go_enter Tryz.func142, Tryz.ntmps142
 go_wp2_with (go_at_call 159; refine (Qar _ _).mono ?_; rintro e w1 ⟨rfl, rfl⟩)
 exact bodyPost_ret (v := .agg #[.string ⟨#[110, 111, 110, 101]⟩, .string ⟨#[110, 111, 110, 101]⟩, .string ⟨#[103, 101, 116]⟩, .string ⟨#[101, 112, 111, 99, 104]⟩, .string ⟨#[106, 111, 105, 110]⟩, .string ⟨#[108, 101, 97, 118, 101]⟩, .string ⟨#[109, 97, 114, 107]⟩, .string ⟨#[114, 101, 97, 100]⟩, .string ⟨#[116, 105, 99, 107]⟩, .string ⟨#[116, 114, 105, 109]⟩, .string ⟨#[112, 97, 99, 107]⟩]) (by simp [results, Tryz.results142, go_sem]) rfl
  ⟨rfl, by repeat (first | exact Below.refl _ _ | (refine via (by assumption) (by first | omega | (simp; done) | (simp; omega)) ?_) | refine Below.drew ?_ | refine Below.setCell ?_ (by first | omega | (simp; done) | (simp; omega)) _ | refine Below.alloc ?_ (by first | omega | (simp; done) | (simp; omega)) _)⟩
theorem without_2 (w : World) :
 Calls Tryz.prog 142 #[.agg #[.string ⟨#[110, 111, 110, 101]⟩, .string ⟨#[112, 117, 116]⟩, .string ⟨#[103, 101, 116]⟩, .string ⟨#[101, 112, 111, 99, 104]⟩, .string ⟨#[106, 111, 105, 110]⟩, .string ⟨#[108, 101, 97, 118, 101]⟩, .string ⟨#[109, 97, 114, 107]⟩, .string ⟨#[114, 101, 97, 100]⟩, .string ⟨#[116, 105, 99, 107]⟩, .string ⟨#[116, 114, 105, 109]⟩, .string ⟨#[112, 97, 99, 107]⟩], .int .i64 2] w fun e w' => e = .returned (.agg #[.string ⟨#[110, 111, 110, 101]⟩, .string ⟨#[112, 117, 116]⟩, .string ⟨#[110, 111, 110, 101]⟩, .string ⟨#[101, 112, 111, 99, 104]⟩, .string ⟨#[106, 111, 105, 110]⟩, .string ⟨#[108, 101, 97, 118, 101]⟩, .string ⟨#[109, 97, 114, 107]⟩, .string ⟨#[114, 101, 97, 100]⟩, .string ⟨#[116, 105, 99, 107]⟩, .string ⟨#[116, 114, 105, 109]⟩, .string ⟨#[112, 97, 99, 107]⟩]) /\ Below w.heap.size w w' := by
 have h : inB 2 0 10 = true := by decide
 go_enter Tryz.func142, Tryz.ntmps142
 go_wp2_with (go_at_call 159; refine (Qar _ _).mono ?_; rintro e w1 ⟨rfl, rfl⟩)
 exact bodyPost_ret (v := .agg #[.string ⟨#[110, 111, 110, 101]⟩, .string ⟨#[112, 117, 116]⟩, .string ⟨#[110, 111, 110, 101]⟩, .string ⟨#[101, 112, 111, 99, 104]⟩, .string ⟨#[106, 111, 105, 110]⟩, .string ⟨#[108, 101, 97, 118, 101]⟩, .string ⟨#[109, 97, 114, 107]⟩, .string ⟨#[114, 101, 97, 100]⟩, .string ⟨#[116, 105, 99, 107]⟩, .string ⟨#[116, 114, 105, 109]⟩, .string ⟨#[112, 97, 99, 107]⟩]) (by simp [results, Tryz.results142, go_sem]) rfl
  ⟨rfl, by repeat (first | exact Below.refl _ _ | (refine via (by assumption) (by first | omega | (simp; done) | (simp; omega)) ?_) | refine Below.drew ?_ | refine Below.setCell ?_ (by first | omega | (simp; done) | (simp; omega)) _ | refine Below.alloc ?_ (by first | omega | (simp; done) | (simp; omega)) _)⟩
theorem without_3 (w : World) :
 Calls Tryz.prog 142 #[.agg #[.string ⟨#[110, 111, 110, 101]⟩, .string ⟨#[112, 117, 116]⟩, .string ⟨#[103, 101, 116]⟩, .string ⟨#[101, 112, 111, 99, 104]⟩, .string ⟨#[106, 111, 105, 110]⟩, .string ⟨#[108, 101, 97, 118, 101]⟩, .string ⟨#[109, 97, 114, 107]⟩, .string ⟨#[114, 101, 97, 100]⟩, .string ⟨#[116, 105, 99, 107]⟩, .string ⟨#[116, 114, 105, 109]⟩, .string ⟨#[112, 97, 99, 107]⟩], .int .i64 3] w fun e w' => e = .returned (.agg #[.string ⟨#[110, 111, 110, 101]⟩, .string ⟨#[112, 117, 116]⟩, .string ⟨#[103, 101, 116]⟩, .string ⟨#[110, 111, 110, 101]⟩, .string ⟨#[106, 111, 105, 110]⟩, .string ⟨#[108, 101, 97, 118, 101]⟩, .string ⟨#[109, 97, 114, 107]⟩, .string ⟨#[114, 101, 97, 100]⟩, .string ⟨#[116, 105, 99, 107]⟩, .string ⟨#[116, 114, 105, 109]⟩, .string ⟨#[112, 97, 99, 107]⟩]) /\ Below w.heap.size w w' := by
 have h : inB 3 0 10 = true := by decide
 go_enter Tryz.func142, Tryz.ntmps142
 go_wp2_with (go_at_call 159; refine (Qar _ _).mono ?_; rintro e w1 ⟨rfl, rfl⟩)
 exact bodyPost_ret (v := .agg #[.string ⟨#[110, 111, 110, 101]⟩, .string ⟨#[112, 117, 116]⟩, .string ⟨#[103, 101, 116]⟩, .string ⟨#[110, 111, 110, 101]⟩, .string ⟨#[106, 111, 105, 110]⟩, .string ⟨#[108, 101, 97, 118, 101]⟩, .string ⟨#[109, 97, 114, 107]⟩, .string ⟨#[114, 101, 97, 100]⟩, .string ⟨#[116, 105, 99, 107]⟩, .string ⟨#[116, 114, 105, 109]⟩, .string ⟨#[112, 97, 99, 107]⟩]) (by simp [results, Tryz.results142, go_sem]) rfl
  ⟨rfl, by repeat (first | exact Below.refl _ _ | (refine via (by assumption) (by first | omega | (simp; done) | (simp; omega)) ?_) | refine Below.drew ?_ | refine Below.setCell ?_ (by first | omega | (simp; done) | (simp; omega)) _ | refine Below.alloc ?_ (by first | omega | (simp; done) | (simp; omega)) _)⟩
theorem without_4 (w : World) :
 Calls Tryz.prog 142 #[.agg #[.string ⟨#[110, 111, 110, 101]⟩, .string ⟨#[112, 117, 116]⟩, .string ⟨#[103, 101, 116]⟩, .string ⟨#[101, 112, 111, 99, 104]⟩, .string ⟨#[106, 111, 105, 110]⟩, .string ⟨#[108, 101, 97, 118, 101]⟩, .string ⟨#[109, 97, 114, 107]⟩, .string ⟨#[114, 101, 97, 100]⟩, .string ⟨#[116, 105, 99, 107]⟩, .string ⟨#[116, 114, 105, 109]⟩, .string ⟨#[112, 97, 99, 107]⟩], .int .i64 4] w fun e w' => e = .returned (.agg #[.string ⟨#[110, 111, 110, 101]⟩, .string ⟨#[112, 117, 116]⟩, .string ⟨#[103, 101, 116]⟩, .string ⟨#[101, 112, 111, 99, 104]⟩, .string ⟨#[110, 111, 110, 101]⟩, .string ⟨#[108, 101, 97, 118, 101]⟩, .string ⟨#[109, 97, 114, 107]⟩, .string ⟨#[114, 101, 97, 100]⟩, .string ⟨#[116, 105, 99, 107]⟩, .string ⟨#[116, 114, 105, 109]⟩, .string ⟨#[112, 97, 99, 107]⟩]) /\ Below w.heap.size w w' := by
 have h : inB 4 0 10 = true := by decide
 go_enter Tryz.func142, Tryz.ntmps142
 go_wp2_with (go_at_call 159; refine (Qar _ _).mono ?_; rintro e w1 ⟨rfl, rfl⟩)
 exact bodyPost_ret (v := .agg #[.string ⟨#[110, 111, 110, 101]⟩, .string ⟨#[112, 117, 116]⟩, .string ⟨#[103, 101, 116]⟩, .string ⟨#[101, 112, 111, 99, 104]⟩, .string ⟨#[110, 111, 110, 101]⟩, .string ⟨#[108, 101, 97, 118, 101]⟩, .string ⟨#[109, 97, 114, 107]⟩, .string ⟨#[114, 101, 97, 100]⟩, .string ⟨#[116, 105, 99, 107]⟩, .string ⟨#[116, 114, 105, 109]⟩, .string ⟨#[112, 97, 99, 107]⟩]) (by simp [results, Tryz.results142, go_sem]) rfl
  ⟨rfl, by repeat (first | exact Below.refl _ _ | (refine via (by assumption) (by first | omega | (simp; done) | (simp; omega)) ?_) | refine Below.drew ?_ | refine Below.setCell ?_ (by first | omega | (simp; done) | (simp; omega)) _ | refine Below.alloc ?_ (by first | omega | (simp; done) | (simp; omega)) _)⟩
theorem without_5 (w : World) :
 Calls Tryz.prog 142 #[.agg #[.string ⟨#[110, 111, 110, 101]⟩, .string ⟨#[112, 117, 116]⟩, .string ⟨#[103, 101, 116]⟩, .string ⟨#[101, 112, 111, 99, 104]⟩, .string ⟨#[106, 111, 105, 110]⟩, .string ⟨#[108, 101, 97, 118, 101]⟩, .string ⟨#[109, 97, 114, 107]⟩, .string ⟨#[114, 101, 97, 100]⟩, .string ⟨#[116, 105, 99, 107]⟩, .string ⟨#[116, 114, 105, 109]⟩, .string ⟨#[112, 97, 99, 107]⟩], .int .i64 5] w fun e w' => e = .returned (.agg #[.string ⟨#[110, 111, 110, 101]⟩, .string ⟨#[112, 117, 116]⟩, .string ⟨#[103, 101, 116]⟩, .string ⟨#[101, 112, 111, 99, 104]⟩, .string ⟨#[106, 111, 105, 110]⟩, .string ⟨#[110, 111, 110, 101]⟩, .string ⟨#[109, 97, 114, 107]⟩, .string ⟨#[114, 101, 97, 100]⟩, .string ⟨#[116, 105, 99, 107]⟩, .string ⟨#[116, 114, 105, 109]⟩, .string ⟨#[112, 97, 99, 107]⟩]) /\ Below w.heap.size w w' := by
 have h : inB 5 0 10 = true := by decide
 go_enter Tryz.func142, Tryz.ntmps142
 go_wp2_with (go_at_call 159; refine (Qar _ _).mono ?_; rintro e w1 ⟨rfl, rfl⟩)
 exact bodyPost_ret (v := .agg #[.string ⟨#[110, 111, 110, 101]⟩, .string ⟨#[112, 117, 116]⟩, .string ⟨#[103, 101, 116]⟩, .string ⟨#[101, 112, 111, 99, 104]⟩, .string ⟨#[106, 111, 105, 110]⟩, .string ⟨#[110, 111, 110, 101]⟩, .string ⟨#[109, 97, 114, 107]⟩, .string ⟨#[114, 101, 97, 100]⟩, .string ⟨#[116, 105, 99, 107]⟩, .string ⟨#[116, 114, 105, 109]⟩, .string ⟨#[112, 97, 99, 107]⟩]) (by simp [results, Tryz.results142, go_sem]) rfl
  ⟨rfl, by repeat (first | exact Below.refl _ _ | (refine via (by assumption) (by first | omega | (simp; done) | (simp; omega)) ?_) | refine Below.drew ?_ | refine Below.setCell ?_ (by first | omega | (simp; done) | (simp; omega)) _ | refine Below.alloc ?_ (by first | omega | (simp; done) | (simp; omega)) _)⟩
theorem without_6 (w : World) :
 Calls Tryz.prog 142 #[.agg #[.string ⟨#[110, 111, 110, 101]⟩, .string ⟨#[112, 117, 116]⟩, .string ⟨#[103, 101, 116]⟩, .string ⟨#[101, 112, 111, 99, 104]⟩, .string ⟨#[106, 111, 105, 110]⟩, .string ⟨#[108, 101, 97, 118, 101]⟩, .string ⟨#[109, 97, 114, 107]⟩, .string ⟨#[114, 101, 97, 100]⟩, .string ⟨#[116, 105, 99, 107]⟩, .string ⟨#[116, 114, 105, 109]⟩, .string ⟨#[112, 97, 99, 107]⟩], .int .i64 6] w fun e w' => e = .returned (.agg #[.string ⟨#[110, 111, 110, 101]⟩, .string ⟨#[112, 117, 116]⟩, .string ⟨#[103, 101, 116]⟩, .string ⟨#[101, 112, 111, 99, 104]⟩, .string ⟨#[106, 111, 105, 110]⟩, .string ⟨#[108, 101, 97, 118, 101]⟩, .string ⟨#[110, 111, 110, 101]⟩, .string ⟨#[114, 101, 97, 100]⟩, .string ⟨#[116, 105, 99, 107]⟩, .string ⟨#[116, 114, 105, 109]⟩, .string ⟨#[112, 97, 99, 107]⟩]) /\ Below w.heap.size w w' := by
 have h : inB 6 0 10 = true := by decide
 go_enter Tryz.func142, Tryz.ntmps142
 go_wp2_with (go_at_call 159; refine (Qar _ _).mono ?_; rintro e w1 ⟨rfl, rfl⟩)
 exact bodyPost_ret (v := .agg #[.string ⟨#[110, 111, 110, 101]⟩, .string ⟨#[112, 117, 116]⟩, .string ⟨#[103, 101, 116]⟩, .string ⟨#[101, 112, 111, 99, 104]⟩, .string ⟨#[106, 111, 105, 110]⟩, .string ⟨#[108, 101, 97, 118, 101]⟩, .string ⟨#[110, 111, 110, 101]⟩, .string ⟨#[114, 101, 97, 100]⟩, .string ⟨#[116, 105, 99, 107]⟩, .string ⟨#[116, 114, 105, 109]⟩, .string ⟨#[112, 97, 99, 107]⟩]) (by simp [results, Tryz.results142, go_sem]) rfl
  ⟨rfl, by repeat (first | exact Below.refl _ _ | (refine via (by assumption) (by first | omega | (simp; done) | (simp; omega)) ?_) | refine Below.drew ?_ | refine Below.setCell ?_ (by first | omega | (simp; done) | (simp; omega)) _ | refine Below.alloc ?_ (by first | omega | (simp; done) | (simp; omega)) _)⟩
theorem without_7 (w : World) :
 Calls Tryz.prog 142 #[.agg #[.string ⟨#[110, 111, 110, 101]⟩, .string ⟨#[112, 117, 116]⟩, .string ⟨#[103, 101, 116]⟩, .string ⟨#[101, 112, 111, 99, 104]⟩, .string ⟨#[106, 111, 105, 110]⟩, .string ⟨#[108, 101, 97, 118, 101]⟩, .string ⟨#[109, 97, 114, 107]⟩, .string ⟨#[114, 101, 97, 100]⟩, .string ⟨#[116, 105, 99, 107]⟩, .string ⟨#[116, 114, 105, 109]⟩, .string ⟨#[112, 97, 99, 107]⟩], .int .i64 7] w fun e w' => e = .returned (.agg #[.string ⟨#[110, 111, 110, 101]⟩, .string ⟨#[112, 117, 116]⟩, .string ⟨#[103, 101, 116]⟩, .string ⟨#[101, 112, 111, 99, 104]⟩, .string ⟨#[106, 111, 105, 110]⟩, .string ⟨#[108, 101, 97, 118, 101]⟩, .string ⟨#[109, 97, 114, 107]⟩, .string ⟨#[110, 111, 110, 101]⟩, .string ⟨#[116, 105, 99, 107]⟩, .string ⟨#[116, 114, 105, 109]⟩, .string ⟨#[112, 97, 99, 107]⟩]) /\ Below w.heap.size w w' := by
 have h : inB 7 0 10 = true := by decide
 go_enter Tryz.func142, Tryz.ntmps142
 go_wp2_with (go_at_call 159; refine (Qar _ _).mono ?_; rintro e w1 ⟨rfl, rfl⟩)
 exact bodyPost_ret (v := .agg #[.string ⟨#[110, 111, 110, 101]⟩, .string ⟨#[112, 117, 116]⟩, .string ⟨#[103, 101, 116]⟩, .string ⟨#[101, 112, 111, 99, 104]⟩, .string ⟨#[106, 111, 105, 110]⟩, .string ⟨#[108, 101, 97, 118, 101]⟩, .string ⟨#[109, 97, 114, 107]⟩, .string ⟨#[110, 111, 110, 101]⟩, .string ⟨#[116, 105, 99, 107]⟩, .string ⟨#[116, 114, 105, 109]⟩, .string ⟨#[112, 97, 99, 107]⟩]) (by simp [results, Tryz.results142, go_sem]) rfl
  ⟨rfl, by repeat (first | exact Below.refl _ _ | (refine via (by assumption) (by first | omega | (simp; done) | (simp; omega)) ?_) | refine Below.drew ?_ | refine Below.setCell ?_ (by first | omega | (simp; done) | (simp; omega)) _ | refine Below.alloc ?_ (by first | omega | (simp; done) | (simp; omega)) _)⟩
theorem without_8 (w : World) :
 Calls Tryz.prog 142 #[.agg #[.string ⟨#[110, 111, 110, 101]⟩, .string ⟨#[112, 117, 116]⟩, .string ⟨#[103, 101, 116]⟩, .string ⟨#[101, 112, 111, 99, 104]⟩, .string ⟨#[106, 111, 105, 110]⟩, .string ⟨#[108, 101, 97, 118, 101]⟩, .string ⟨#[109, 97, 114, 107]⟩, .string ⟨#[114, 101, 97, 100]⟩, .string ⟨#[116, 105, 99, 107]⟩, .string ⟨#[116, 114, 105, 109]⟩, .string ⟨#[112, 97, 99, 107]⟩], .int .i64 8] w fun e w' => e = .returned (.agg #[.string ⟨#[110, 111, 110, 101]⟩, .string ⟨#[112, 117, 116]⟩, .string ⟨#[103, 101, 116]⟩, .string ⟨#[101, 112, 111, 99, 104]⟩, .string ⟨#[106, 111, 105, 110]⟩, .string ⟨#[108, 101, 97, 118, 101]⟩, .string ⟨#[109, 97, 114, 107]⟩, .string ⟨#[114, 101, 97, 100]⟩, .string ⟨#[110, 111, 110, 101]⟩, .string ⟨#[116, 114, 105, 109]⟩, .string ⟨#[112, 97, 99, 107]⟩]) /\ Below w.heap.size w w' := by
 have h : inB 8 0 10 = true := by decide
 go_enter Tryz.func142, Tryz.ntmps142
 go_wp2_with (go_at_call 159; refine (Qar _ _).mono ?_; rintro e w1 ⟨rfl, rfl⟩)
 exact bodyPost_ret (v := .agg #[.string ⟨#[110, 111, 110, 101]⟩, .string ⟨#[112, 117, 116]⟩, .string ⟨#[103, 101, 116]⟩, .string ⟨#[101, 112, 111, 99, 104]⟩, .string ⟨#[106, 111, 105, 110]⟩, .string ⟨#[108, 101, 97, 118, 101]⟩, .string ⟨#[109, 97, 114, 107]⟩, .string ⟨#[114, 101, 97, 100]⟩, .string ⟨#[110, 111, 110, 101]⟩, .string ⟨#[116, 114, 105, 109]⟩, .string ⟨#[112, 97, 99, 107]⟩]) (by simp [results, Tryz.results142, go_sem]) rfl
  ⟨rfl, by repeat (first | exact Below.refl _ _ | (refine via (by assumption) (by first | omega | (simp; done) | (simp; omega)) ?_) | refine Below.drew ?_ | refine Below.setCell ?_ (by first | omega | (simp; done) | (simp; omega)) _ | refine Below.alloc ?_ (by first | omega | (simp; done) | (simp; omega)) _)⟩
theorem without_9 (w : World) :
 Calls Tryz.prog 142 #[.agg #[.string ⟨#[110, 111, 110, 101]⟩, .string ⟨#[112, 117, 116]⟩, .string ⟨#[103, 101, 116]⟩, .string ⟨#[101, 112, 111, 99, 104]⟩, .string ⟨#[106, 111, 105, 110]⟩, .string ⟨#[108, 101, 97, 118, 101]⟩, .string ⟨#[109, 97, 114, 107]⟩, .string ⟨#[114, 101, 97, 100]⟩, .string ⟨#[116, 105, 99, 107]⟩, .string ⟨#[116, 114, 105, 109]⟩, .string ⟨#[112, 97, 99, 107]⟩], .int .i64 9] w fun e w' => e = .returned (.agg #[.string ⟨#[110, 111, 110, 101]⟩, .string ⟨#[112, 117, 116]⟩, .string ⟨#[103, 101, 116]⟩, .string ⟨#[101, 112, 111, 99, 104]⟩, .string ⟨#[106, 111, 105, 110]⟩, .string ⟨#[108, 101, 97, 118, 101]⟩, .string ⟨#[109, 97, 114, 107]⟩, .string ⟨#[114, 101, 97, 100]⟩, .string ⟨#[116, 105, 99, 107]⟩, .string ⟨#[110, 111, 110, 101]⟩, .string ⟨#[112, 97, 99, 107]⟩]) /\ Below w.heap.size w w' := by
 have h : inB 9 0 10 = true := by decide
 go_enter Tryz.func142, Tryz.ntmps142
 go_wp2_with (go_at_call 159; refine (Qar _ _).mono ?_; rintro e w1 ⟨rfl, rfl⟩)
 exact bodyPost_ret (v := .agg #[.string ⟨#[110, 111, 110, 101]⟩, .string ⟨#[112, 117, 116]⟩, .string ⟨#[103, 101, 116]⟩, .string ⟨#[101, 112, 111, 99, 104]⟩, .string ⟨#[106, 111, 105, 110]⟩, .string ⟨#[108, 101, 97, 118, 101]⟩, .string ⟨#[109, 97, 114, 107]⟩, .string ⟨#[114, 101, 97, 100]⟩, .string ⟨#[116, 105, 99, 107]⟩, .string ⟨#[110, 111, 110, 101]⟩, .string ⟨#[112, 97, 99, 107]⟩]) (by simp [results, Tryz.results142, go_sem]) rfl
  ⟨rfl, by repeat (first | exact Below.refl _ _ | (refine via (by assumption) (by first | omega | (simp; done) | (simp; omega)) ?_) | refine Below.drew ?_ | refine Below.setCell ?_ (by first | omega | (simp; done) | (simp; omega)) _ | refine Below.alloc ?_ (by first | omega | (simp; done) | (simp; omega)) _)⟩
theorem without_10 (w : World) :
 Calls Tryz.prog 142 #[.agg #[.string ⟨#[110, 111, 110, 101]⟩, .string ⟨#[112, 117, 116]⟩, .string ⟨#[103, 101, 116]⟩, .string ⟨#[101, 112, 111, 99, 104]⟩, .string ⟨#[106, 111, 105, 110]⟩, .string ⟨#[108, 101, 97, 118, 101]⟩, .string ⟨#[109, 97, 114, 107]⟩, .string ⟨#[114, 101, 97, 100]⟩, .string ⟨#[116, 105, 99, 107]⟩, .string ⟨#[116, 114, 105, 109]⟩, .string ⟨#[112, 97, 99, 107]⟩], .int .i64 10] w fun e w' => e = .returned (.agg #[.string ⟨#[110, 111, 110, 101]⟩, .string ⟨#[112, 117, 116]⟩, .string ⟨#[103, 101, 116]⟩, .string ⟨#[101, 112, 111, 99, 104]⟩, .string ⟨#[106, 111, 105, 110]⟩, .string ⟨#[108, 101, 97, 118, 101]⟩, .string ⟨#[109, 97, 114, 107]⟩, .string ⟨#[114, 101, 97, 100]⟩, .string ⟨#[116, 105, 99, 107]⟩, .string ⟨#[116, 114, 105, 109]⟩, .string ⟨#[110, 111, 110, 101]⟩]) /\ Below w.heap.size w w' := by
 have h : inB 10 0 10 = true := by decide
 go_enter Tryz.func142, Tryz.ntmps142
 go_wp2_with (go_at_call 159; refine (Qar _ _).mono ?_; rintro e w1 ⟨rfl, rfl⟩)
 exact bodyPost_ret (v := .agg #[.string ⟨#[110, 111, 110, 101]⟩, .string ⟨#[112, 117, 116]⟩, .string ⟨#[103, 101, 116]⟩, .string ⟨#[101, 112, 111, 99, 104]⟩, .string ⟨#[106, 111, 105, 110]⟩, .string ⟨#[108, 101, 97, 118, 101]⟩, .string ⟨#[109, 97, 114, 107]⟩, .string ⟨#[114, 101, 97, 100]⟩, .string ⟨#[116, 105, 99, 107]⟩, .string ⟨#[116, 114, 105, 109]⟩, .string ⟨#[110, 111, 110, 101]⟩]) (by simp [results, Tryz.results142, go_sem]) rfl
  ⟨rfl, by repeat (first | exact Below.refl _ _ | (refine via (by assumption) (by first | omega | (simp; done) | (simp; omega)) ?_) | refine Below.drew ?_ | refine Below.setCell ?_ (by first | omega | (simp; done) | (simp; omega)) _ | refine Below.alloc ?_ (by first | omega | (simp; done) | (simp; omega)) _)⟩
end Go.Proofs.YtbcbdhjeebcleaaGreatDoor.CmdOk
