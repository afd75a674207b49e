/-
  MakerOk of the specification and of the program at this seat: they answer alike. No condition but that there are at most 1048576 marks.
-/
import Derived.Test.YtkmkldjipihceaaGreatDkV
set_option linter.unusedVariables false
set_option linter.unusedSimpArgs false
set_option maxRecDepth 100000
set_option maxHeartbeats 8000000
set_option maxRecDepth 100000
set_option maxHeartbeats 8000000
namespace Go.Proofs.YtkmkldjipihceaaGreat.Gen
open ChangeShapes WideShapes ChangeAt RowKit Joins Deep Base
def Qeg (l : List Mk) (j : Nat) : Int := (l.getD j ⟨0, 0⟩).off
def Qh1 (last : Int) (l : List Mk) (j : Nat) : Int := IntKind.i64.wrap (last - IntKind.i64.wrap (IntKind.i64.wrap ((l.length : Int) - 1) - (j : Int)))
def Qed (last : Int) (l : List Mk) (j : Nat) : Bool := inB (Qeg l j) 0 100000 && decide ((l.getD j ⟨0, 0⟩).seq = Qh1 last l j) && (decide (j = 0) || decide (Qeg l (j - 1) < Qeg l j))
def Qba (last : Int) (l : List Mk) (n : Nat) : Bool := (List.range n).all (Qed last l)
theorem Qcx (last : Int) (l : List Mk) (n : Nat) : Qba last l (n + 1) = (Qba last l n && Qed last l n) := by simp [Qba, List.range_succ]
theorem Qb7 {last : Int} {l : List Mk} {n : Nat} (h : n < l.length) (hr : Qed last l n = false) : Qba last l l.length = false := by
 unfold Qba
 rw [List.all_eq_false]
 exact ⟨n, by simpa using h, by simp [hr]⟩
theorem Qfy {l : List Mk} {n : Nat} (h : n < l.length) : Qeg l n = l[n].off := by simp [Qeg, h]
theorem Qbk {last : Int} {l : List Mk} {n : Nat} (h : n < l.length) : Qed last l n = (inB l[n].off 0 100000 && decide (l[n].seq = Qh1 last l n) && (decide (n = 0) || decide (Qeg l (n - 1) < l[n].off))) := by
 simp [Qed, Qfy h, h]
theorem prev_is {l : List Mk} {n p : Nat} (h : p < l.length) (e : n = p + 1) : Qeg l (n - 1) = l[p].off := by subst e; simpa using Qfy h
theorem seqAt_is {last : Int} (h0 : -1 <= last) (h1 : last <= 100000) {l : List Mk} (hl : l.length <= 1048576) {n : Nat} (hn : n < l.length) : Qh1 last l n = last - l.length + 1 + n := by
 unfold Qh1
 have a : IntKind.i64.wrap ((l.length : Int) - 1) = (l.length : Int) - 1 := by rw [IntKind.wrap_i64]; omega
 have b : IntKind.i64.wrap ((l.length : Int) - 1 - (n : Int)) = (l.length : Int) - 1 - n := by rw [IntKind.wrap_i64]; omega
 rw [a, b, IntKind.wrap_i64]; omega
def okB (row who epoch last window : Int) (l : List Mk) : Bool :=
  inB row 0 3 && inB who 0 3 && inB epoch 0 100000 && inB last (-1) 100000 && decide ((l.length : Int) <= window) && decide ((l.length : Int) <= last + 1) && (decide ((l.length : Int) = 0) == decide (last = -1)) && Qba last l l.length
theorem okB_no {row who epoch last window : Int} {l : List Mk} (h : Qba last l l.length = false) : okB row who epoch last window l = false := by simp [okB, h]
theorem okB_yes {row who epoch last window : Int} {l : List Mk} (hl : l.length <= 1048576) (h : Qba last l l.length = true) (h1 : ¬ (l.length : Int) > window) (h2 : ¬ (l.length : Int) > wrap64 (last + 1)) (h3 : ¬ (last >= 0 /\ (l.length : Int) = 0)) :
 okB row who epoch last window l = (inB row 0 3 && (inB who 0 3 && (inB epoch 0 100000 && inB last (-1) 100000))) := by
 cases hL : inB last (-1) 100000
 . simp [okB, hL]
 . have hL' : -1 <= last /\ last <= 100000 := by simpa [inB] using hL
   have e : wrap64 (last + 1) = last + 1 := by simp only [wrap64]; omega
   rw [e] at h2
   have a1 : decide ((l.length : Int) <= window) = true := decide_eq_true (by omega)
   have a2 : decide ((l.length : Int) <= last + 1) = true := decide_eq_true (by omega)
   have a3 : (decide ((l.length : Int) = 0) == decide (last = -1)) = true := by
    by_cases hz : last = -1
    . rw [decide_eq_true hz, decide_eq_true (by omega)]; rfl
    . rw [decide_eq_false hz, decide_eq_false (by omega)]; rfl
   unfold okB
   rw [hL, a1, a2, a3, h]
   simp [Bool.and_assoc]
theorem okB_two {row who epoch last window : Int} {l : List Mk} (hl : l.length <= 1048576) (h2 : (l.length : Int) > wrap64 (last + 1)) : okB row who epoch last window l = false := by
 cases hL : inB last (-1) 100000
 . simp [okB, hL]
 . have hL' : -1 <= last /\ last <= 100000 := by simpa [inB] using hL
   have e : wrap64 (last + 1) = last + 1 := by simp only [wrap64]; omega
   rw [e] at h2
   have a2 : decide ((l.length : Int) <= last + 1) = false := decide_eq_false (by omega)
   unfold okB
   rw [a2]; simp
theorem okB_three {row who epoch last window : Int} {l : List Mk} (h3 : last >= 0) (h4 : (l.length : Int) = 0) : okB row who epoch last window l = false := by
 have a : (decide ((l.length : Int) = 0) == decide (last = -1)) = false := by rw [decide_eq_true h4, decide_eq_false (by omega)]; rfl
 unfold okB
 rw [a]; simp
theorem beqs (a b c d : Int) : ((a == b) = (c == d)) ↔ (decide (a = b) == decide (c = d)) = true := by
 have e1 : (a == b) = decide (a = b) := rfl
 have e2 : (c == d) = decide (c = d) := rfl
 rw [e1, e2]; simp
theorem Qh3 (row who epoch last : Int) (h0 : -1 <= last) (h1 : last <= 100000) (A : Option Addr) (cap : Nat) (l : List Mk) (hl : l.length <= 1048576) (w : World) (hA : At w A l) :
 Calls Tryz.prog 185 #[.agg (Qa6 row who epoch last A l.length cap)] w fun e w' => e = .returned (.bool (Qba last l l.length)) /\ Below w.heap.size w w' := by
 have HA : Hid (At w A l) := hA
 clear hA
 go_enter Tryz.func185, Tryz.ntmps185
 go_wp2
 go_loopw [3, 4, 16] (fun s lo i w' => ∃ (n : Nat) (x y : Int), i = .int .i64 (n : Int) /\ s = .int .i64 x /\ lo = .int .i64 y /\ n <= l.length /\ x <= last /\ -2000000 <= x /\ 0 <= y /\ y <= 100001 /\ Hid (x = last - l.length + n) /\ Hid (y = if n = 0 then 0 else Qeg l (n - 1) + 1) /\ Hid (Qba last l n = true) /\ Below w.heap.size w w') (fun _ _ i _ => l.length - (intOf i).toNat)
 case atStart => exact ⟨0, _, 0, rfl, rfl, rfl, by omega, by omega, by omega, by omega, by omega, by show _ = _; omega, rfl, rfl, Qab (Below.refl _ _) _⟩
 case round =>
  obtain ⟨n, x, y, rfl, rfl, rfl, hn, hx0, hx1, hy0, hy1, hx, hy, hR, hbl⟩ := hrel
  by_cases hlt : n < l.length
  . obtain ⟨b, o, rfl, hbs, hin⟩ : ∃ b o, A = some ⟨b, o, none⟩ /\ b < w.heap.size /\ In w b o l := by
     rcases HA.out with h | h
     . subst h; simp at hlt
     . exact h
    obtain ⟨c0, c1⟩ := (hin.below hbs hbl).getMk n hlt
    have hi0 : (0 : Int) <= (n : Int) := by omega
    have hi1 : (n : Int) < (l.length : Int) := by omega
    have HS : Hid (Qh1 last l n = x + 1) := by show _ = _; rw [seqAt_is h0 h1 hl hlt, hx.out]; omega
    by_cases hs : l[n].seq = x + 1
    . have hxl : x + 1 <= last := by have := hx.out; omega
      cases hw : inB l[n].off y 100000
      . have hF : Hid (Qba last l l.length = false) := Qb7 hlt (by
         rw [Qbk hlt]
         have hw' : ¬ (y <= l[n].off /\ l[n].off <= 100000) := by simpa [inB] using hw
         have hy' := hy.out
         by_cases hz : n = 0
         . rw [if_pos hz] at hy'
           subst hy'
           simp [hw]
         . rw [if_neg hz] at hy'
           by_cases hq : l[n].off <= 100000
           . have : decide (Qeg l (n - 1) < l[n].off) = false := decide_eq_false (by omega)
             rw [this]; simp [hz]
           . have : inB l[n].off 0 100000 = false := by simp [inB]; omega
             rw [this]; simp)
        go_wp2_with (go_at_call 89; refine (within_any _ _ _ _).mono ?_; rw [hw]; rintro e w1 ⟨rfl, rfl⟩)
        go_ret
        exact ⟨by rw [hF.out]; rfl, by repeat (first | exact Below.refl _ _ | assumption | refine via0 (by assumption) ?_ | refine Below.drew ?_ | refine Qab ?_ _)⟩
      . have hw' : y <= l[n].off /\ l[n].off <= 100000 := by simpa [inB] using hw
        have hF : Hid (Qba last l (n + 1) = true) := by
         show _ = _
         rw [Qcx, hR.out, Qbk hlt, HS.out, hs]
         have hy' := hy.out
         have a : inB l[n].off 0 100000 = true := by simp [inB]; omega
         rw [a]
         by_cases hz : n = 0
         . simp [hz]
         . rw [if_neg hz] at hy'
           have : decide (Qeg l (n - 1) < l[n].off) = true := decide_eq_true (by omega)
           rw [this]; simp
        have hO : Hid (l[n].off + 1 = if n + 1 = 0 then 0 else Qeg l (n + 1 - 1) + 1) := by show _ = _; simp [Qfy hlt]
        obtain ⟨hw1, hw2⟩ := hw'
        go_wp2_with (go_at_call 89; refine (within_any _ _ _ _).mono ?_; rw [hw]; rintro e w1 ⟨rfl, rfl⟩)
        exact ⟨⟨n + 1, x + 1, l[n].off + 1, by go_num, rfl, rfl, by omega, hxl, by omega, by omega, by omega, by have := hx.out; show _ = _; omega, hO, hF, by repeat (first | exact Below.refl _ _ | assumption | refine via0 (by assumption) ?_ | refine Below.drew ?_ | refine Qab ?_ _)⟩, by simp [intOf]; omega⟩
    . have hF : Hid (Qba last l l.length = false) := Qb7 hlt (by rw [Qbk hlt, HS.out]; simp [hs])
      go_wp2_with fail
      go_ret
      exact ⟨by rw [hF.out]; rfl, by repeat (first | exact Below.refl _ _ | assumption | refine via0 (by assumption) ?_ | refine Below.drew ?_ | refine Qab ?_ _)⟩
  . obtain rfl : n = l.length := by omega
    go_wp2
    go_ret
    exact ⟨by rw [hR.out]; rfl, hbl⟩
theorem implOk_is (row who epoch last window : Int) (A : Option Addr) (cap : Nat) (l : List Mk) (hl : l.length <= 1048576) (w : World) (hA : At w A l) :
 Calls Tryz.prog 166 #[.agg (Qa6 row who epoch last A l.length cap), .int .i64 window] w fun e w' => e = .returned (.bool (okB row who epoch last window l)) /\ Below w.heap.size w w' := by
 have HA : Hid (At w A l) := hA
 clear hA
 by_cases hL : -1 <= last /\ last <= 100000
 . have HL := hidP hL
   have hr := fun W hW => Qh3 row who epoch last HL.out.1 HL.out.2 A cap l hl W hW
   have Hr := hidP hr
   have hb : last + 1 <= 100001 := by omega
   have hb' : 0 <= last + 1 := by omega
   clear hr hL
   have Hok : Hid (∀ a1 a2 a3 a4 a5 a6 a7 a8 : Bool, a1 = inB row 0 3 -> a2 = inB who 0 3 -> a3 = inB epoch 0 100000 -> a4 = inB last (-1) 100000 -> a5 = decide ((l.length : Int) <= window) -> a6 = decide ((l.length : Int) <= last + 1) -> a7 = (decide ((l.length : Int) = 0) == decide (last = -1)) -> a8 = Qba last l l.length -> okB row who epoch last window l = (a1 && a2 && a3 && a4 && a5 && a6 && a7 && a8)) := by
    intro a1 a2 a3 a4 a5 a6 a7 a8 e1 e2 e3 e4 e5 e6 e7 e8
    subst e1 e2 e3 e4 e5 e6 e7 e8
    rfl
   generalize okB row who epoch last window l = ans at *
   generalize Qba last l l.length = rt at *
   go_enter Tryz.func166, Tryz.ntmps166
   go_wp2_with (first
    | (go_at_call 89; refine (within_any _ _ _ _).mono ?_; rintro e w' ⟨rfl, rfl⟩)
    | (go_at_call 185; refine (Hr.out _ (HA.out.below (Qab (Below.refl _ _) _))).mono ?_; rintro e w1 ⟨rfl, g1⟩))
   all_goals
    go_ret
    refine ⟨?_, by repeat (first | exact Below.refl _ _ | assumption | refine via0 (by assumption) ?_ | refine Below.drew ?_ | refine Qab ?_ _)⟩
    rw [Hok.out _ _ _ _ _ _ _ _ rfl rfl rfl rfl rfl rfl rfl rfl]
    clear Hok Hr HA
    refine congrArg (fun b : Bool => Ending.returned (Value.bool b)) (?_ : _ = _)
    try simp only [beqs] at *
    (try simp_all)<;>(intros; omega)
 . have h4 : inB last (-1) 100000 = false := by simp only [inB, decide_eq_false_iff_not]; exact hL
   have hF : Hid (okB row who epoch last window l = false) := by show _ = _; simp [okB, h4]
   clear hL
   go_enter Tryz.func166, Tryz.ntmps166
   go_wp2_with (go_at_call 89; refine (within_any _ _ _ _).mono ?_; rintro e w' ⟨rfl, rfl⟩)
   all_goals
    go_ret
    exact ⟨by rw [hF.out]; first | rfl | simp_all, by repeat (first | exact Below.refl _ _ | assumption | refine via0 (by assumption) ?_ | refine Below.drew ?_ | refine Qab ?_ _)⟩
end Go.Proofs.YtkmkldjipihceaaGreat.Gen
