/-
  Lists of numbers: how they lie, and what the laws' to, sz, eq, mark and held functions of them do. No condition but that there are at most 1048576.
-/
import Derived.Test.YtkmkldjipihceaaGreatBase
set_option linter.unusedVariables false
set_option linter.unusedSimpArgs false
set_option maxRecDepth 100000
set_option maxHeartbeats 8000000
set_option maxRecDepth 100000
set_option maxHeartbeats 8000000
namespace Go.Proofs.YtkmkldjipihceaaGreat.Gen
open ChangeShapes WideShapes ChangeAt RowKit Joins Deep Base
instance : Cel Int where
  k := 1
  cs x := [.int .i64 x]
  len _ := rfl
  one x u hu := by simp at hu; subst hu; rfl
theorem In.getInt {w : World} {b o : Nat} {l : List Int} (h : In w b o l) (i : Nat) (hi : i < l.length) : w.cell? ⟨b, o + i, none⟩ = some (.int .i64 l[i]) := by
 have := h.cell i hi (f := 0) rfl
 have e : o + i * Cel.k Int + 0 = o + i := by show o + i * 1 + 0 = o + i; omega
 rwa [e] at this
theorem Qgk {w : World} {b o m n : Nat} (h : w.there b o (m * 1)) (hn : n < m) : (∃ v, w.cell? ⟨b, o + n, none⟩ = some v) /\ w.frozen? ⟨b, o + n, none⟩ = false := by
 have := Qah (f := 0) h hn (by omega)
 rwa [Nat.mul_one, Nat.add_zero] at this
theorem infoInt : (Tryz.prog.info? 3).map (fun i => (i.zero, i.size, i.bytes)) = some (some (.int .i64 0), 1, 8) := by kernel_rfl
theorem cellsInt : Tryz.prog.cellsOf 3 = 1 := by kernel_rfl
theorem Qb5 (A : Option Addr) (n cap : Nat) (hn : n <= 9223372036854775807) (left : Int) (h0 : 0 <= left) (h1 : left <= 1048576) (w : World) :
 Calls Tryz.prog 15 #[.slice A n cap, .int .i64 left] w fun e w' => e = .returned (.int .i64 (if left < n then -1 else left - n)) /\ w' = w := by
 by_cases h : left < n
 . have g : left - (n : Int) < 0 := by omega
   rw [if_pos h]
   go_enter Tryz.func15, Tryz.ntmps15
   go_wp2
   go_ret
   exact ⟨rfl, rfl⟩
 . have g : ¬ left - (n : Int) < 0 := by omega
   rw [if_neg h]
   go_enter Tryz.func15, Tryz.ntmps15
   go_wp2
   go_ret
   exact ⟨rfl, rfl⟩
theorem store_int {w : World} {b : Nat} {l : List Int} {n : Nat} (hin : In w b 0 (l.take n)) (hth : w.there b 0 (l.length * 1)) (hn : n < l.length) :
 In (w.setCell ⟨b, n, none⟩ (.int .i64 l[n])) b 0 (l.take (n + 1)) /\ (w.setCell ⟨b, n, none⟩ (.int .i64 l[n])).there b 0 (l.length * 1) := by
 have h := Qcb hin hth hn
 have e : w.setCells b (n * Cel.k Int) (Cel.cs l[n]) = w.setCell ⟨b, n, none⟩ (.int .i64 l[n]) := by
  show (w.setCell ⟨b, n * 1, none⟩ (.int .i64 l[n])) = _
  rw [Nat.mul_one]
 rw [e] at h
 exact h
theorem Qb4 (A : Option Addr) (cap : Nat) (l : List Int) (hl : l.length <= 1048576) (w : World) (hA : At w A l) :
 Calls Tryz.prog 22 #[.slice A l.length cap] w fun e w' => e = .returned (.slice (some ⟨w.heap.size, 0, none⟩) l.length l.length) /\ Below w.heap.size w w' /\ w.heap.size < w'.heap.size /\ In w' w.heap.size 0 l /\ w'.there w.heap.size 0 (l.length * 1) := by
 have HA : Hid (At w A l) := hA
 clear hA
 have hmk := Qbg (P := Tryz.prog) Tryz.underlying27 infoInt (by omega) l.length hl
 go_enter Tryz.func22, Tryz.ntmps22
 go_wp2
 go_loopw [4] (fun i w' => ∃ (n : Nat), i = .int .i64 (n : Int) /\ n <= l.length /\ Below w.heap.size w w' /\ w.heap.size < w'.heap.size /\ Hid (In w' w.heap.size 0 (l.take n)) /\ Hid (w'.there w.heap.size 0 (l.length * 1))) (fun i _ => l.length - (intOf i).toNat)
 case atStart => exact ⟨0, rfl, by omega, by repeat (first | exact Below.refl _ _ | refine via0 (by assumption) ?_ | refine Below.drew ?_ | refine Qab ?_ _), by simp, In.nil _ _ _, hidP (by have h := Qa0 w #[Value.int .i64 0] l.length 1 3; simpa using h)⟩
 case round =>
  obtain ⟨n, rfl, hn, hbl, hsz, hin, hth⟩ := hrel
  by_cases hlt : n < l.length
  . obtain ⟨b, o, rfl, hbs, hIn⟩ : ∃ b o, A = some ⟨b, o, none⟩ /\ b < w.heap.size /\ In w b o l := by
     rcases HA.out with h | h
     . subst h; simp at hlt
     . exact h
    have c0 := (hIn.below hbs hbl).getInt n hlt
    obtain ⟨⟨v0, d0⟩, f0⟩ := Qgk hth.out hlt
    simp only [Nat.zero_add] at d0 f0
    go_wp2
    have hst := store_int hin.out hth.out hlt
    exact ⟨⟨n + 1, by go_num, by omega, hbl.setCell (Nat.le_refl _) _, by simpa using hsz, hst.1, hst.2⟩, by simp [intOf]; omega⟩
  . have e : l.take n = l := List.take_of_length_le (by omega)
    go_wp2
    go_ret
    exact ⟨rfl, hbl, hsz, by have := hin.out; rwa [e] at this, hth.out⟩
theorem Qbv (A A' : Option Addr) (cap cap' : Nat) (l : List Int) (hl : l.length <= 9223372036854775807) (w : World) (hA : At w A l) (hA' : At w A' l) :
 Calls Tryz.prog 30 #[.slice A l.length cap, .slice A' l.length cap'] w fun e w' => e = .returned (.bool true) /\ Below w.heap.size w w' := by
 have HA : Hid (At w A l) := hA
 have HA' : Hid (At w A' l) := hA'
 clear hA hA'
 go_enter Tryz.func30, Tryz.ntmps30
 go_wp2
 go_loopw [5] (fun i w' => ∃ (n : Nat), i = .int .i64 (n : Int) /\ n <= l.length /\ Below w.heap.size w w') (fun i _ => l.length - (intOf i).toNat)
 case atStart => exact ⟨0, rfl, by omega, Below.refl _ _⟩
 case round =>
  obtain ⟨n, rfl, hn, hbl⟩ := hrel
  by_cases hlt : n < l.length
  . obtain ⟨b, o, rfl, hbs, hin⟩ : ∃ b o, A = some ⟨b, o, none⟩ /\ b < w.heap.size /\ In w b o l := by
     rcases HA.out with h | h
     . subst h; simp at hlt
     . exact h
    obtain ⟨b', o', rfl, hbs', hin'⟩ : ∃ b o, A' = some ⟨b, o, none⟩ /\ b < w.heap.size /\ In w b o l := by
     rcases HA'.out with h | h
     . subst h; simp at hlt
     . exact h
    have c0 := (hin.below hbs hbl).getInt n hlt
    have d0 := (hin'.below hbs' hbl).getInt n hlt
    have hi0 : (0 : Int) <= (n : Int) := by omega
    have hi1 : (n : Int) < (l.length : Int) := by omega
    go_wp2
    go_region
    all_goals
     go_wp2
     exact ⟨⟨n + 1, by go_num, by omega, by repeat (first | exact hbl | refine Below.drew ?_)⟩, by simp [intOf]; omega⟩
  . go_wp2
    go_ret
    exact ⟨rfl, hbl⟩
theorem openInt1 {H : Type} {enc : TypeId × Value -> H} {w : World} {base n : Nat} {spare : Nat -> Bool} {held : Bool} {a : Addr} {cs : List Value} {y : DataW H × List MemPlace}
 (h1 : w.cells? base a 1 = some cs) (h2 : DataW.trod enc Tryz.prog w base spare held n 3 cs = some y) :
 ∃ x : Int, I64 x /\ a.spot = none /\ a.block < w.heap.size /\ ∀ j v, (Cel.cs x)[j]? = some v -> w.cell? ⟨a.block, a.off + j, none⟩ = some v := by
 obtain ⟨_, hlen, hc⟩ := World.cells?_some h1
 match cs, hlen with
 | [c0], _ =>
  obtain ⟨x, e0, _, w0⟩ := DataW.trod_int Tryz.underlying3 h2
  simp at e0
  subst e0
  have q0 := hc 0 (by omega)
  have hsp : a.spot = none := by
   cases hs : a.spot with
   | none => rfl
   | some s => exfalso; simp [Addr.add, World.cell?, hs] at q0; split at q0<;>simp at q0
  have hlt : a.block < w.heap.size := by
   rw [show a.add 0 = a from rfl] at q0
   unfold World.cell? at q0
   cases hh : w.heap[a.block]? with
   | none => simp [hh] at q0
   | some ob => exact (Array.getElem?_eq_some_iff.1 hh).1
  refine ⟨x, Qa8 w0, hsp, hlt, ?_⟩
  intro j v hv
  have hj : j < 1 := (List.getElem?_eq_some_iff.1 hv).1
  have q := hc j hj
  have e : a.add j = ⟨a.block, a.off + j, none⟩ := by
   obtain ⟨b, o, s⟩ := a
   simp only at hsp
   subst hsp
   exact Addr.add_mid b o j
  rw [e] at q
  rw [q]
  exact hv
theorem Qcc {H : Type} {enc : TypeId × Value -> H} {W : World} {base n : Nat} {spare : Nat -> Bool} {held : Bool} {c : Value} {y : DataW H × List MemPlace}
 (g : DataW.trod enc Tryz.prog W base spare held n 27 [c] = some y) :
 ∃ (A : Option Addr) (cap : Nat) (l : List Int), c = .slice A l.length cap /\ l.length <= 9223372036854775807 /\ (∀ x ∈ l, I64 x) /\ At W A l := by
 rcases open_slice Tryz.underlying27 g with ⟨e2, _⟩ | ⟨a, len, cap, m, n', D, Pl, e2, _, hl, hm, hmm, _, hx⟩
 . simp at e2
   subst e2
   exact ⟨none, 0, [], rfl, by simp, by simp, .inl rfl⟩
 . simp at e2
   subst e2
   have hle : len <= m := by rw [hmm]; split<;>omega
   rw [cellsInt] at hx
   obtain ⟨X, hX⟩ := choose_lt (α := Int) (p := fun i x => I64 x /\ (a.add (i * 1)).spot = none /\ (a.add (i * 1)).block < W.heap.size /\ ∀ j v, (Cel.cs x)[j]? = some v -> W.cell? ⟨(a.add (i * 1)).block, (a.add (i * 1)).off + j, none⟩ = some v)
    (n := len) (fun i hi => by obtain ⟨cs', h1, h2⟩ := hx i (by omega); exact openInt1 h1 h2)
   obtain ⟨l, rfl, hR, hat⟩ := Qdo (α := Int) (by decide) (R := I64) hX
   exact ⟨some a, cap, l, rfl, by simp [maxLen] at hm ⊢; omega, hR, hat⟩
instance : Cel Bool where
  k := 1
  cs x := [.bool x]
  len _ := rfl
  one x u hu := by simp at hu; subst hu; rfl
theorem In.getBool {w : World} {b o : Nat} {l : List Bool} (h : In w b o l) (i : Nat) (hi : i < l.length) : w.cell? ⟨b, o + i, none⟩ = some (.bool l[i]) := by
 have := h.cell i hi (f := 0) rfl
 have e : o + i * Cel.k Bool + 0 = o + i := by show o + i * 1 + 0 = o + i; omega
 rwa [e] at this
theorem infoBool : (Tryz.prog.info? 4).map (fun i => (i.zero, i.size, i.bytes)) = some (some (.bool false), 1, 1) := by kernel_rfl
theorem cellsBool : Tryz.prog.cellsOf 4 = 1 := by kernel_rfl
theorem szBool_any (A : Option Addr) (n cap : Nat) (hn : n <= 9223372036854775807) (left : Int) (h0 : 0 <= left) (h1 : left <= 1048576) (w : World) :
 Calls Tryz.prog 72 #[.slice A n cap, .int .i64 left] w fun e w' => e = .returned (.int .i64 (if left < n then -1 else left - n)) /\ w' = w := by
 by_cases h : left < n
 . have g : left - (n : Int) < 0 := by omega
   rw [if_pos h]
   go_enter Tryz.func72, Tryz.ntmps72
   go_wp2
   go_ret
   exact ⟨rfl, rfl⟩
 . have g : ¬ left - (n : Int) < 0 := by omega
   rw [if_neg h]
   go_enter Tryz.func72, Tryz.ntmps72
   go_wp2
   go_ret
   exact ⟨rfl, rfl⟩
theorem store_bool {w : World} {b : Nat} {l : List Bool} {n : Nat} (hin : In w b 0 (l.take n)) (hth : w.there b 0 (l.length * 1)) (hn : n < l.length) :
 In (w.setCell ⟨b, n, none⟩ (.bool l[n])) b 0 (l.take (n + 1)) /\ (w.setCell ⟨b, n, none⟩ (.bool l[n])).there b 0 (l.length * 1) := by
 have h := Qcb hin hth hn
 have e : w.setCells b (n * Cel.k Bool) (Cel.cs l[n]) = w.setCell ⟨b, n, none⟩ (.bool l[n]) := by
  show (w.setCell ⟨b, n * 1, none⟩ (.bool l[n])) = _
  rw [Nat.mul_one]
 rw [e] at h
 exact h
theorem toBool_any (A : Option Addr) (cap : Nat) (l : List Bool) (hl : l.length <= 1048576) (w : World) (hA : At w A l) :
 Calls Tryz.prog 84 #[.slice A l.length cap] w fun e w' => e = .returned (.slice (some ⟨w.heap.size, 0, none⟩) l.length l.length) /\ Below w.heap.size w w' /\ w.heap.size < w'.heap.size /\ In w' w.heap.size 0 l /\ w'.there w.heap.size 0 (l.length * 1) := by
 have HA : Hid (At w A l) := hA
 clear hA
 have hmk := Qbg (P := Tryz.prog) Tryz.underlying62 infoBool (by omega) l.length hl
 go_enter Tryz.func84, Tryz.ntmps84
 go_wp2
 go_loopw [4] (fun i w' => ∃ (n : Nat), i = .int .i64 (n : Int) /\ n <= l.length /\ Below w.heap.size w w' /\ w.heap.size < w'.heap.size /\ Hid (In w' w.heap.size 0 (l.take n)) /\ Hid (w'.there w.heap.size 0 (l.length * 1))) (fun i _ => l.length - (intOf i).toNat)
 case atStart => exact ⟨0, rfl, by omega, by repeat (first | exact Below.refl _ _ | refine via0 (by assumption) ?_ | refine Below.drew ?_ | refine Qab ?_ _), by simp, In.nil _ _ _, hidP (by have h := Qa0 w #[Value.bool false] l.length 1 4; simpa using h)⟩
 case round =>
  obtain ⟨n, rfl, hn, hbl, hsz, hin, hth⟩ := hrel
  by_cases hlt : n < l.length
  . obtain ⟨b, o, rfl, hbs, hIn⟩ : ∃ b o, A = some ⟨b, o, none⟩ /\ b < w.heap.size /\ In w b o l := by
     rcases HA.out with h | h
     . subst h; simp at hlt
     . exact h
    have c0 := (hIn.below hbs hbl).getBool n hlt
    obtain ⟨⟨v0, d0⟩, f0⟩ := Qgk hth.out hlt
    simp only [Nat.zero_add] at d0 f0
    go_wp2
    have hst := store_bool hin.out hth.out hlt
    exact ⟨⟨n + 1, by go_num, by omega, hbl.setCell (Nat.le_refl _) _, by simpa using hsz, hst.1, hst.2⟩, by simp [intOf]; omega⟩
  . have e : l.take n = l := List.take_of_length_le (by omega)
    go_wp2
    go_ret
    exact ⟨rfl, hbl, hsz, by have := hin.out; rwa [e] at this, hth.out⟩
theorem Qie (A A' : Option Addr) (cap cap' : Nat) (l : List Bool) (hl : l.length <= 9223372036854775807) (w : World) (hA : At w A l) (hA' : At w A' l) :
 Calls Tryz.prog 101 #[.slice A l.length cap, .slice A' l.length cap'] w fun e w' => e = .returned (.bool true) /\ Below w.heap.size w w' := by
 have HA : Hid (At w A l) := hA
 have HA' : Hid (At w A' l) := hA'
 clear hA hA'
 go_enter Tryz.func101, Tryz.ntmps101
 go_wp2
 go_loopw [5] (fun i w' => ∃ (n : Nat), i = .int .i64 (n : Int) /\ n <= l.length /\ Below w.heap.size w w') (fun i _ => l.length - (intOf i).toNat)
 case atStart => exact ⟨0, rfl, by omega, Below.refl _ _⟩
 case round =>
  obtain ⟨n, rfl, hn, hbl⟩ := hrel
  by_cases hlt : n < l.length
  . obtain ⟨b, o, rfl, hbs, hin⟩ : ∃ b o, A = some ⟨b, o, none⟩ /\ b < w.heap.size /\ In w b o l := by
     rcases HA.out with h | h
     . subst h; simp at hlt
     . exact h
    obtain ⟨b', o', rfl, hbs', hin'⟩ : ∃ b o, A' = some ⟨b, o, none⟩ /\ b < w.heap.size /\ In w b o l := by
     rcases HA'.out with h | h
     . subst h; simp at hlt
     . exact h
    have c0 := (hin.below hbs hbl).getBool n hlt
    have d0 := (hin'.below hbs' hbl).getBool n hlt
    have hi0 : (0 : Int) <= (n : Int) := by omega
    have hi1 : (n : Int) < (l.length : Int) := by omega
    go_wp2
    go_region
    all_goals
     go_wp2
     exact ⟨⟨n + 1, by go_num, by omega, by repeat (first | exact hbl | refine Below.drew ?_)⟩, by simp [intOf]; omega⟩
  . go_wp2
    go_ret
    exact ⟨rfl, hbl⟩
theorem openBool1 {H : Type} {enc : TypeId × Value -> H} {w : World} {base n : Nat} {spare : Nat -> Bool} {held : Bool} {a : Addr} {cs : List Value} {y : DataW H × List MemPlace}
 (h1 : w.cells? base a 1 = some cs) (h2 : DataW.trod enc Tryz.prog w base spare held n 4 cs = some y) :
 ∃ x : Bool, True /\ a.spot = none /\ a.block < w.heap.size /\ ∀ j v, (Cel.cs x)[j]? = some v -> w.cell? ⟨a.block, a.off + j, none⟩ = some v := by
 obtain ⟨_, hlen, hc⟩ := World.cells?_some h1
 match cs, hlen with
 | [c0], _ =>
  obtain ⟨x, e0, _⟩ := DataW.trod_bool Tryz.underlying4 h2
  simp at e0
  subst e0
  have q0 := hc 0 (by omega)
  have hsp : a.spot = none := by
   cases hs : a.spot with
   | none => rfl
   | some s => exfalso; simp [Addr.add, World.cell?, hs] at q0; split at q0<;>simp at q0
  have hlt : a.block < w.heap.size := by
   rw [show a.add 0 = a from rfl] at q0
   unfold World.cell? at q0
   cases hh : w.heap[a.block]? with
   | none => simp [hh] at q0
   | some ob => exact (Array.getElem?_eq_some_iff.1 hh).1
  refine ⟨x, trivial, hsp, hlt, ?_⟩
  intro j v hv
  have hj : j < 1 := (List.getElem?_eq_some_iff.1 hv).1
  have q := hc j hj
  have e : a.add j = ⟨a.block, a.off + j, none⟩ := by
   obtain ⟨b, o, s⟩ := a
   simp only at hsp
   subst hsp
   exact Addr.add_mid b o j
  rw [e] at q
  rw [q]
  exact hv
theorem openBools {H : Type} {enc : TypeId × Value -> H} {W : World} {base n : Nat} {spare : Nat -> Bool} {held : Bool} {c : Value} {y : DataW H × List MemPlace}
 (g : DataW.trod enc Tryz.prog W base spare held n 62 [c] = some y) :
 ∃ (A : Option Addr) (cap : Nat) (l : List Bool), c = .slice A l.length cap /\ l.length <= 9223372036854775807 /\ At W A l := by
 rcases open_slice Tryz.underlying62 g with ⟨e2, _⟩ | ⟨a, len, cap, m, n', D, Pl, e2, _, hl, hm, hmm, _, hx⟩
 . simp at e2
   subst e2
   exact ⟨none, 0, [], rfl, by simp, .inl rfl⟩
 . simp at e2
   subst e2
   have hle : len <= m := by rw [hmm]; split<;>omega
   rw [cellsBool] at hx
   obtain ⟨X, hX⟩ := choose_lt (α := Bool) (p := fun i x => True /\ (a.add (i * 1)).spot = none /\ (a.add (i * 1)).block < W.heap.size /\ ∀ j v, (Cel.cs x)[j]? = some v -> W.cell? ⟨(a.add (i * 1)).block, (a.add (i * 1)).off + j, none⟩ = some v)
    (n := len) (fun i hi => by obtain ⟨cs', h1, h2⟩ := hx i (by omega); exact openBool1 h1 h2)
   obtain ⟨l, rfl, hR, hat⟩ := Qdo (α := Bool) (by decide) (R := fun _ => True) hX
   exact ⟨some a, cap, l, rfl, by simp [maxLen] at hm ⊢; omega, hat⟩
instance : Cel UInt8 where
  k := 1
  cs x := [.int .u8 (x.toNat : Int)]
  len _ := rfl
  one x u hu := by simp at hu; subst hu; rfl
theorem In.getB {w : World} {b o : Nat} {l : List UInt8} (h : In w b o l) (i : Nat) (hi : i < l.length) : w.cell? ⟨b, o + i, none⟩ = some (.int .u8 (l[i].toNat : Int)) := by
 have := h.cell i hi (f := 0) rfl
 have e : o + i * Cel.k UInt8 + 0 = o + i := by show o + i * 1 + 0 = o + i; omega
 rwa [e] at this
theorem there_one {w : World} {b o m n : Nat} (h : w.there b o (m * 1)) (hn : n < m) : (∃ v, w.cell? ⟨b, o + n, none⟩ = some v) /\ w.frozen? ⟨b, o + n, none⟩ = false := by
 have := Qah (f := 0) h hn (by omega)
 rwa [Nat.mul_one, Nat.add_zero] at this
theorem infoB : (Tryz.prog.info? 5).map (fun i => (i.zero, i.size, i.bytes)) = some (some (.int .u8 0), 1, 1) := by kernel_rfl
theorem cellsB : Tryz.prog.cellsOf 5 = 1 := by kernel_rfl
theorem store_b {w : World} {b : Nat} {l : List UInt8} {n : Nat} (hin : In w b 0 (l.take n)) (hth : w.there b 0 (l.length * 1)) (hn : n < l.length) :
 In (w.setCell ⟨b, n, none⟩ (.int .u8 (l[n].toNat : Int))) b 0 (l.take (n + 1)) /\ (w.setCell ⟨b, n, none⟩ (.int .u8 (l[n].toNat : Int))).there b 0 (l.length * 1) := by
 have h := Qcb hin hth hn
 have e : w.setCells b (n * Cel.k UInt8) (Cel.cs l[n]) = w.setCell ⟨b, n, none⟩ (.int .u8 (l[n].toNat : Int)) := by
  show (w.setCell ⟨b, n * 1, none⟩ (.int .u8 (l[n].toNat : Int))) = _
  rw [Nat.mul_one]
 rw [e] at h
 exact h
theorem toB_any (A : Option Addr) (cap : Nat) (l : List UInt8) (hl : l.length <= 1048576) (w : World) (hA : At w A l) :
 Calls Tryz.prog 123 #[.slice A l.length cap] w fun e w' => e = .returned (.slice (some ⟨w.heap.size, 0, none⟩) l.length l.length) /\ Below w.heap.size w w' /\ w.heap.size < w'.heap.size /\ In w' w.heap.size 0 l /\ w'.there w.heap.size 0 (l.length * 1) := by
 have HA : Hid (At w A l) := hA
 clear hA
 have hmk := Qbg (P := Tryz.prog) Tryz.underlying63 infoB (by omega) l.length hl
 go_enter Tryz.func123, Tryz.ntmps123
 go_wp2
 go_loopw [4] (fun i w' => ∃ (n : Nat), i = .int .i64 (n : Int) /\ n <= l.length /\ Below w.heap.size w w' /\ w.heap.size < w'.heap.size /\ Hid (In w' w.heap.size 0 (l.take n)) /\ Hid (w'.there w.heap.size 0 (l.length * 1))) (fun i _ => l.length - (intOf i).toNat)
 case atStart => exact ⟨0, rfl, by omega, by repeat (first | exact Below.refl _ _ | refine via0 (by assumption) ?_ | refine Below.drew ?_ | refine Qab ?_ _), by simp, In.nil _ _ _, hidP (by have h := Qa0 w #[Value.int .u8 0] l.length 1 5; simpa using h)⟩
 case round =>
  obtain ⟨n, rfl, hn, hbl, hsz, hin, hth⟩ := hrel
  by_cases hlt : n < l.length
  . obtain ⟨b, o, rfl, hbs, hIn⟩ : ∃ b o, A = some ⟨b, o, none⟩ /\ b < w.heap.size /\ In w b o l := by
     rcases HA.out with h | h
     . subst h; simp at hlt
     . exact h
    have c0 := (hIn.below hbs hbl).getB n hlt
    obtain ⟨⟨v0, d0⟩, f0⟩ := there_one hth.out hlt
    simp only [Nat.zero_add] at d0 f0
    go_wp2
    have hst := store_b hin.out hth.out hlt
    exact ⟨⟨n + 1, by go_num, by omega, hbl.setCell (Nat.le_refl _) _, by simpa using hsz, hst.1, hst.2⟩, by simp [intOf]; omega⟩
  . have e : l.take n = l := List.take_of_length_le (by omega)
    go_wp2
    go_ret
    exact ⟨rfl, hbl, hsz, by have := hin.out; rwa [e] at this, hth.out⟩
theorem eqB_same (A A' : Option Addr) (cap cap' : Nat) (l : List UInt8) (hl : l.length <= 9223372036854775807) (w : World) (hA : At w A l) (hA' : At w A' l) :
 Calls Tryz.prog 135 #[.slice A l.length cap, .slice A' l.length cap'] w fun e w' => e = .returned (.bool true) /\ Below w.heap.size w w' := by
 have HA : Hid (At w A l) := hA
 have HA' : Hid (At w A' l) := hA'
 clear hA hA'
 go_enter Tryz.func135, Tryz.ntmps135
 go_wp2
 go_loopw [5] (fun i w' => ∃ (n : Nat), i = .int .i64 (n : Int) /\ n <= l.length /\ Below w.heap.size w w') (fun i _ => l.length - (intOf i).toNat)
 case atStart => exact ⟨0, rfl, by omega, Below.refl _ _⟩
 case round =>
  obtain ⟨n, rfl, hn, hbl⟩ := hrel
  by_cases hlt : n < l.length
  . obtain ⟨b, o, rfl, hbs, hin⟩ : ∃ b o, A = some ⟨b, o, none⟩ /\ b < w.heap.size /\ In w b o l := by
     rcases HA.out with h | h
     . subst h; simp at hlt
     . exact h
    obtain ⟨b', o', rfl, hbs', hin'⟩ : ∃ b o, A' = some ⟨b, o, none⟩ /\ b < w.heap.size /\ In w b o l := by
     rcases HA'.out with h | h
     . subst h; simp at hlt
     . exact h
    have c0 := (hin.below hbs hbl).getB n hlt
    have d0 := (hin'.below hbs' hbl).getB n hlt
    have hi0 : (0 : Int) <= (n : Int) := by omega
    have hi1 : (n : Int) < (l.length : Int) := by omega
    go_wp2
    go_region
    all_goals
     go_wp2
     exact ⟨⟨n + 1, by go_num, by omega, by repeat (first | exact hbl | refine Below.drew ?_)⟩, by simp [intOf]; omega⟩
  . go_wp2
    go_ret
    exact ⟨rfl, hbl⟩
def u8 (z : Int) : UInt8 := UInt8.ofNat (z % 256).toNat
theorem u8_toNat (z : Int) : ((u8 z).toNat : Int) = z % 256 := by
 unfold u8
 rw [UInt8.toNat_ofNat']
 omega
theorem openB1 {H : Type} {enc : TypeId × Value -> H} {w : World} {base n : Nat} {spare : Nat -> Bool} {held : Bool} {a : Addr} {cs : List Value} {y : DataW H × List MemPlace}
 (h1 : w.cells? base a 1 = some cs) (h2 : DataW.trod enc Tryz.prog w base spare held n 5 cs = some y) :
 ∃ x : UInt8, True /\ a.spot = none /\ a.block < w.heap.size /\ ∀ j v, (Cel.cs x)[j]? = some v -> w.cell? ⟨a.block, a.off + j, none⟩ = some v := by
 obtain ⟨_, hlen, hc⟩ := World.cells?_some h1
 match cs, hlen with
 | [c0], _ =>
  obtain ⟨x, e0, _, w0⟩ := DataW.trod_int Tryz.underlying5 h2
  simp at e0
  subst e0
  have hx : 0 <= x /\ x <= 255 := by simpa [Lit.wf, IntKind.min, IntKind.max, IntKind.signed, IntKind.bits] using w0
  have q0 := hc 0 (by omega)
  have hsp : a.spot = none := by
   cases hs : a.spot with
   | none => rfl
   | some s => exfalso; simp [Addr.add, World.cell?, hs] at q0; split at q0<;>simp at q0
  have hlt : a.block < w.heap.size := by
   rw [show a.add 0 = a from rfl] at q0
   unfold World.cell? at q0
   cases hh : w.heap[a.block]? with
   | none => simp [hh] at q0
   | some ob => exact (Array.getElem?_eq_some_iff.1 hh).1
  refine ⟨u8 x, trivial, hsp, hlt, ?_⟩
  intro j v hv
  have hj : j < 1 := (List.getElem?_eq_some_iff.1 hv).1
  have q := hc j hj
  have e : a.add j = ⟨a.block, a.off + j, none⟩ := by
   obtain ⟨b, o, s⟩ := a
   simp only at hsp
   subst hsp
   exact Addr.add_mid b o j
  rw [e] at q
  rw [q]
  have e8 : ((u8 x).toNat : Int) = x := by rw [u8_toNat]; omega
  have ec : (Cel.cs (u8 x) : List Value) = [.int .u8 x] := by show [Value.int .u8 ((u8 x).toNat : Int)] = _; rw [e8]
  rw [ec] at hv
  exact hv
theorem openBs {H : Type} {enc : TypeId × Value -> H} {W : World} {base n : Nat} {spare : Nat -> Bool} {held : Bool} {c : Value} {y : DataW H × List MemPlace}
 (g : DataW.trod enc Tryz.prog W base spare held n 63 [c] = some y) :
 ∃ (A : Option Addr) (cap : Nat) (l : List UInt8), c = .slice A l.length cap /\ l.length <= 9223372036854775807 /\ At W A l := by
 rcases open_slice Tryz.underlying63 g with ⟨e2, _⟩ | ⟨a, len, cap, m, n', D, Pl, e2, _, hl, hm, hmm, _, hx⟩
 . simp at e2
   subst e2
   exact ⟨none, 0, [], rfl, by simp, .inl rfl⟩
 . simp at e2
   subst e2
   have hle : len <= m := by rw [hmm]; split<;>omega
   rw [cellsB] at hx
   obtain ⟨X, hX⟩ := choose_lt (α := UInt8) (p := fun i x => True /\ (a.add (i * 1)).spot = none /\ (a.add (i * 1)).block < W.heap.size /\ ∀ j v, (Cel.cs x)[j]? = some v -> W.cell? ⟨(a.add (i * 1)).block, (a.add (i * 1)).off + j, none⟩ = some v)
    (n := len) (fun i hi => by obtain ⟨cs', h1, h2⟩ := hx i (by omega); exact openB1 h1 h2)
   obtain ⟨l, rfl, hR, hat⟩ := Qdo (α := UInt8) (by decide) (R := fun _ => True) hX
   exact ⟨some a, cap, l, rfl, by simp [maxLen] at hm ⊢; omega, hat⟩
end Go.Proofs.YtkmkldjipihceaaGreat.Gen
namespace Go.Proofs.YtkmkldjipihceaaGreat.Cmd
open ChangeShapes WideShapes ChangeAt RowKit Base
theorem to_any (who seq op a b c : Int) (k t : ByteArray) (w : World) :
 Calls Tryz.prog 46 #[.agg (Qan who seq op a b c k t)] w fun e w' => e = .returned (.agg (Qan who seq op a b c k t)) /\ Below w.heap.size w w' := by
 go_enter Tryz.func46, Tryz.ntmps46
 go_wp2
 exact bodyPost_ret (v := .agg (Qan who seq op a b c k t)) (by simp [results, Tryz.results46, go_sem]) rfl
  ⟨rfl, by repeat (first | exact Below.refl _ _ | refine Below.drew ?_ | refine Below.alloc ?_ (by simp<;>omega) _)⟩
end Go.Proofs.YtkmkldjipihceaaGreat.Cmd
