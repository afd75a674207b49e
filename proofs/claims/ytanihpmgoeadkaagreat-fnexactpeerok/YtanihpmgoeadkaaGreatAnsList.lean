/-
  Lists of answers: how they lie, what the laws' to, sz, eq, mark and held functions of them do; the argument opened. No condition but that there are at most 1048576, and the length that every text has.
-/
import Derived.Test.YtanihpmgoeadkaaGreatAns
import Derived.Test.YtanihpmgoeadkaaGreatMarkText
import Derived.Test.YtanihpmgoeadkaaGreatGen
import Derived.Test.YtanihpmgoeadkaaGreatRows
import Derived.Test.YtanihpmgoeadkaaGreatBase
import Derived.Lib.SmallJoins
import Derived.Deep.RegionWith
import Derived.Deep.RegionHeld3
import Derived.Laws.MakeOwn
namespace Go.Proofs.YtanihpmgoeadkaaGreat.Gen
open Go.ChangeShapes Go.WideShapes Go.ChangeAt Go.RowKit Go.Joins Go.Deep Base
set_option linter.unusedVariables false
structure An where
  code : Int
  n : Int
  key : ByteArray
  text : ByteArray
instance : Inhabited An := ⟨⟨0, 0, ⟨#[]⟩, ⟨#[]⟩⟩⟩
instance : Cel An where
  k := 4
  cs x := [.int .i64 x.code, .int .i64 x.n, .string x.key, .string x.text]
  len _ := rfl
  one x u hu := by simp at hu; rcases hu with rfl | rfl | rfl | rfl<;>rfl
def An.right (x : An) : Prop := I64 x.code /\ I64 x.n /\ x.key.size <= 9223372036854775807 /\ x.text.size <= 9223372036854775807
theorem In.getAn {w : World} {b o : Nat} {l : List An} (h : In w b o l) (i : Nat) (hi : i < l.length) :
    w.cell? ⟨b, o + i * 4, none⟩ = some (.int .i64 l[i].code) /\ w.cell? ⟨b, o + i * 4 + 1, none⟩ = some (.int .i64 l[i].n) /\ w.cell? ⟨b, o + i * 4 + 2, none⟩ = some (.string l[i].key) /\ w.cell? ⟨b, o + i * 4 + 3, none⟩ = some (.string l[i].text) :=
  ⟨h.cell i hi (f := 0) rfl, h.cell i hi (f := 1) rfl, h.cell i hi (f := 2) rfl, h.cell i hi (f := 3) rfl⟩
theorem infoAn : (Tryz.prog.info? 142).map (fun i => (i.zero, i.size, i.bytes)) = some (some (.agg #[.int .i64 0, .int .i64 0, .string ⟨#[]⟩, .string ⟨#[]⟩]), 4, 48) := by kernel_rfl
def szAn (x : An) : Nat := x.key.size + x.text.size
set_option maxRecDepth 100000 in
set_option maxHeartbeats 1000000 in
theorem szAnswerS_any (A : Option Addr) (cap : Nat) (l : List An) (hl : l.length <= 9223372036854775807) (hr : ∀ x ∈ l, x.key.size <= 9223372036854775807 /\ x.text.size <= 9223372036854775807) (left : Int) (h0 : 0 <= left) (h1 : left <= 1048576) (w : World) (hA : At w A l) :
    Calls Tryz.prog 70 #[.slice A l.length cap, .int .i64 left] w fun e w' => (∃ r : Int, e = .returned (.int .i64 r) /\ (r < 0 ∨ (0 <= r /\ r = left - (l.length : Int) - (count szAn l : Int)))) /\ Below w.heap.size w w' := by
  have HA := hidP hA
  have Hr := hidP hr
  clear hA hr
  by_cases h : left < (l.length : Int)
  . have g : left - (l.length : Int) < 0 := by omega
    go_enter Tryz.func70, Tryz.ntmps70
    go_wp2
    go_ret
    exact ⟨⟨-1, rfl, .inl (by omega)⟩, Below.refl _ _⟩
  . have g : ¬ left - (l.length : Int) < 0 := by omega
    go_enter Tryz.func70, Tryz.ntmps70
    go_wp2
    go_loopw [1, 5] (fun q i w' => ∃ (n : Nat) (z : Int), i = .int .i64 (n : Int) /\ q = .int .i64 z /\ n <= l.length /\ 0 <= z /\ z <= 1048576 /\ Hid (z = left - (l.length : Int) - (count szAn (l.take n) : Int)) /\ Below w.heap.size w w') (fun _ i _ => l.length - (intOf i).toNat)
    case atStart => exact ⟨0, _, rfl, rfl, by omega, by omega, by omega, by simp [Hid, count], Below.refl _ _⟩
    case round =>
      obtain ⟨n, z, rfl, rfl, hn, hz0, hz1, hz, hbl⟩ := hrel
      by_cases hlt : n < l.length
      . obtain ⟨b, o, rfl, hbs, hIn⟩ : ∃ b o, A = some ⟨b, o, none⟩ /\ b < w.heap.size /\ In w b o l := by
          rcases HA.out with h | h
          . subst h; simp at hlt
          . exact h
        obtain ⟨c0, c1, c2, c3⟩ := (hIn.below hbs hbl).getAn n hlt
        have hms := Hr.out _ (List.getElem_mem hlt)
        have hsn := hidP (count_snoc szAn l n hlt)
        go_wp2_with fail
        refine (szAnswer_any _ _ _ _ hms.1 hms.2 z hz0 hz1 _).mono ?_
        rintro e w1 ⟨⟨r, rfl, hr⟩, g1⟩
        rcases hr with rfl | ⟨hr0, hr1⟩
        . go_wp2
          go_ret
          exact ⟨⟨-1, rfl, .inl (by omega)⟩, via0 g1 hbl⟩
        . have hp : ¬ r < 0 := by omega
          have HR1 := hidP hr1
          clear hr1
          go_wp2
          have hz' := hz.out
          have hsn' := hsn.out
          have hr' := HR1.out
          exact ⟨⟨n + 1, r, by go_num, rfl, by omega, by omega, by omega, by show _ = _; rw [hsn', hr', hz']; simp only [szAn]; omega, via0 g1 hbl⟩, by simp [intOf]; omega⟩
      . have e : l.take n = l := List.take_of_length_le (by omega)
        go_wp2
        go_ret
        have hz' := hz.out
        rw [e] at hz'
        exact ⟨⟨z, rfl, .inr ⟨hz0, hz'⟩⟩, hbl⟩
set_option maxRecDepth 100000 in
set_option maxHeartbeats 1000000 in
theorem toAnswerS_any (A : Option Addr) (cap : Nat) (l : List An) (hl : l.length <= 1048576) (w : World) (hA : At w A l) :
    Calls Tryz.prog 83 #[.slice A l.length cap] w fun e w' => e = .returned (.slice (some ⟨w.heap.size, 0, none⟩) l.length l.length) /\ Below w.heap.size w w' /\ w.heap.size < w'.heap.size /\ In w' w.heap.size 0 l /\ w'.there w.heap.size 0 (l.length * 4) := by
  have HA := hidP hA
  clear hA
  have hmk := make_els (P := Tryz.prog) Tryz.underlying53 infoAn (by omega) l.length hl
  go_enter Tryz.func83, Tryz.ntmps83
  go_wp2
  go_loopw [4] (fun i w' => ∃ (n : Nat), i = .int .i64 (n : Int) /\ n <= l.length /\ Below w.heap.size w w' /\ w.heap.size < w'.heap.size /\ Hid (In w' w.heap.size 0 (l.take n)) /\ Hid (w'.there w.heap.size 0 (l.length * 4))) (fun i _ => l.length - (intOf i).toNat)
  case atStart => exact ⟨0, rfl, by omega, by repeat (first | exact Below.refl _ _ | assumption | refine via0 (by assumption) ?_ | refine Below.drew ?_ | refine alloc0 ?_ _), by simp, In.nil _ _ _, made_there w _ _ _ _⟩
  case round =>
    obtain ⟨n, rfl, hn, hbl, hsz, hin, hth⟩ := hrel
    by_cases hlt : n < l.length
    . obtain ⟨b, o, rfl, hbs, hIn⟩ : ∃ b o, A = some ⟨b, o, none⟩ /\ b < w.heap.size /\ In w b o l := by
        rcases HA.out with h | h
        . subst h; simp at hlt
        . exact h
      obtain ⟨c0, c1, c2, c3⟩ := (hIn.below hbs hbl).getAn n hlt
      obtain ⟨⟨v0, d0⟩, f0⟩ := there_at (f := 0) hth.out hlt (by omega)
      obtain ⟨⟨v1, d1⟩, f1⟩ := there_at (f := 1) hth.out hlt (by omega)
      obtain ⟨⟨v2, d2⟩, f2⟩ := there_at (f := 2) hth.out hlt (by omega)
      obtain ⟨⟨v3, d3⟩, f3⟩ := there_at (f := 3) hth.out hlt (by omega)
      simp only [Nat.zero_add, Nat.add_zero] at d0 f0 d1 f1 d2 f2 d3 f3
      go_wp2_with (go_at_call 139; refine (toAnswer_any _ _ _ _ _).mono ?_; rintro e w1 ⟨rfl, g1⟩; obtain ⟨k1, m1⟩ := bcell g1; have s1 := g1.size)
      have hst := store_el (hin.out.below hsz g1) (there_below hth.out hsz g1) hlt
      refine ⟨⟨n + 1, by go_num, by omega, ?_, by simp; omega, hst.1, hst.2⟩, by simp [intOf]; omega⟩
      exact ((((via0 g1 hbl).setCell (Nat.le_refl _) _).setCell (Nat.le_refl _) _).setCell (Nat.le_refl _) _).setCell (Nat.le_refl _) _
    . have e : l.take n = l := List.take_of_length_le (by omega)
      go_wp2
      go_ret
      exact ⟨rfl, hbl, hsz, by have := hin.out; rwa [e] at this, hth.out⟩
theorem eqAnswer_same (code n : Int) (k t : ByteArray) (w : World) :
    Calls Tryz.prog 165 #[.agg #[.int .i64 code, .int .i64 n, .string k, .string t], .agg #[.int .i64 code, .int .i64 n, .string k, .string t]] w fun e w' => e = .returned (.bool true) /\ Below w.heap.size w w' := by
  go_enter Tryz.func165, Tryz.ntmps165
  go_wp2
  go_ret
  exact ⟨rfl, by repeat (first | exact Below.refl _ _ | assumption | refine via0 (by assumption) ?_ | refine Below.drew ?_ | refine alloc0 ?_ _)⟩
set_option maxRecDepth 100000 in
set_option maxHeartbeats 1000000 in
theorem eqAnswerS_same (A A' : Option Addr) (cap cap' : Nat) (l : List An) (hl : l.length <= 9223372036854775807) (w : World) (hA : At w A l) (hA' : At w A' l) :
    Calls Tryz.prog 98 #[.slice A l.length cap, .slice A' l.length cap'] w fun e w' => e = .returned (.bool true) /\ Below w.heap.size w w' := by
  have HA := hidP hA
  have HA' := hidP hA'
  clear hA hA'
  go_enter Tryz.func98, Tryz.ntmps98
  go_wp2
  go_loopw [5] (fun i w' => ∃ (n : Nat), i = .int .i64 (n : Int) /\ n <= l.length /\ Below w.heap.size w w') (fun i _ => l.length - (intOf i).toNat)
  case atStart => exact ⟨0, rfl, by omega, Below.refl _ _⟩
  case round =>
    obtain ⟨n, rfl, hn, hbl⟩ := hrel
    by_cases hlt : n < l.length
    . obtain ⟨b, o, rfl, hbs, hin⟩ : ∃ b o, A = some ⟨b, o, none⟩ /\ b < w.heap.size /\ In w b o l := by
        rcases HA.out with h | h
        . subst h; simp at hlt
        . exact h
      obtain ⟨b', o', rfl, hbs', hin'⟩ : ∃ b o, A' = some ⟨b, o, none⟩ /\ b < w.heap.size /\ In w b o l := by
        rcases HA'.out with h | h
        . subst h; simp at hlt
        . exact h
      obtain ⟨c0, c1, c2, c3⟩ := (hin.below hbs hbl).getAn n hlt
      obtain ⟨d0, d1, d2, d3⟩ := (hin'.below hbs' hbl).getAn n hlt
      have hb1 : b < wr.heap.size := Nat.lt_of_lt_of_le hbs hbl.size
      have hb2 : b' < wr.heap.size := Nat.lt_of_lt_of_le hbs' hbl.size
      have hi0 : (0 : Int) <= (n : Int) := by omega
      have hi1 : (n : Int) < (l.length : Int) := by omega
      go_wp2
      go_region_held3 (fun w' => w'.cell? ⟨b, o + n * 4, none⟩ = some (.int .i64 l[n].code) /\ w'.cell? ⟨b, o + n * 4 + 1, none⟩ = some (.int .i64 l[n].n) /\ w'.cell? ⟨b, o + n * 4 + 2, none⟩ = some (.string l[n].key) /\ w'.cell? ⟨b, o + n * 4 + 3, none⟩ = some (.string l[n].text) /\
          w'.cell? ⟨b', o' + n * 4, none⟩ = some (.int .i64 l[n].code) /\ w'.cell? ⟨b', o' + n * 4 + 1, none⟩ = some (.int .i64 l[n].n) /\ w'.cell? ⟨b', o' + n * 4 + 2, none⟩ = some (.string l[n].key) /\ w'.cell? ⟨b', o' + n * 4 + 3, none⟩ = some (.string l[n].text) /\ wr.heap.size <= w'.heap.size)
        (first | (go_split_ands; refine ⟨?_, ?_, ?_, ?_, ?_, ?_, ?_, ?_, ?_⟩<;>first | assumption | exact (k1 _ _ hb1).trans (by assumption) | exact (k1 _ _ hb2).trans (by assumption) | exact s1 | (simp; done)) | go_keep)
        (first
          | (go_at_call 165; refine (eqAnswer_same _ _ _ _ _).mono ?_; rintro e w1 ⟨rfl, g1⟩; obtain ⟨k1, m1⟩ := bcell g1; have s1 := g1.size))
      all_goals
        go_wp2
        exact ⟨⟨n + 1, by go_num, by omega, via0 g1 hbl.drew⟩, by simp [intOf]; omega⟩
    . go_wp2
      go_ret
      exact ⟨rfl, hbl⟩
set_option maxRecDepth 100000 in
theorem openAn {H : Type} {enc : TypeId × Value -> H} {w : World} {base n : Nat} {spare : Nat -> Bool} {held : Bool} {a : Addr} {cs : List Value} {y : DataW H × List MemPlace}
    (h1 : w.cells? base a 4 = some cs) (h2 : DataW.trod enc Tryz.prog w base spare held n 191 cs = some y) :
    ∃ x : An, x.right /\ a.spot = none /\ a.block < w.heap.size /\ ∀ j v, (Cel.cs x)[j]? = some v -> w.cell? ⟨a.block, a.off + j, none⟩ = some v := by
  obtain ⟨_, hlen, hc⟩ := World.cells?_some h1
  match cs, hlen with
  | [c0, c1, c2, c3], _ =>
    obtain ⟨m, hf⟩ := fields_at Tryz.underlying191 (by kernel_rfl) h2
    obtain ⟨y0, g0⟩ := hf 0 _ rfl _ rfl
    obtain ⟨y1, g1⟩ := hf 1 _ rfl _ rfl
    obtain ⟨y2, g2⟩ := hf 2 _ rfl _ rfl
    obtain ⟨y3, g3⟩ := hf 3 _ rfl _ rfl
    obtain ⟨code, e0, _, w0⟩ := DataW.trod_int Tryz.underlying3 g0
    obtain ⟨nn, e1, _, w1⟩ := DataW.trod_int Tryz.underlying3 g1
    obtain ⟨key, e2, _, w2⟩ := DataW.trod_string Tryz.underlying9 g2
    obtain ⟨text, e3, _, w3⟩ := DataW.trod_string Tryz.underlying9 g3
    simp at e0 e1 e2 e3
    subst e0 e1 e2 e3
    have q0 := hc 0 (by omega)
    have hsp : a.spot = none := by
      cases hs : a.spot with
      | none => rfl
      | some s => exfalso; simp [Addr.add, World.cell?, hs] at q0; split at q0<;>simp at q0
    have hlt : a.block < w.heap.size := by
      rw [show a.add 0 = a from rfl] at q0
      unfold World.cell? at q0
      cases hh : w.heap[a.block]? with
      | none => simp [hh] at q0
      | some ob => exact (Array.getElem?_eq_some_iff.1 hh).1
    refine ⟨⟨code, nn, key, text⟩, ⟨i64_of w0, i64_of w1, by simpa [maxLen] using w2, by simpa [maxLen] using w3⟩, hsp, hlt, ?_⟩
    intro j v hv
    have hj : j < 4 := (List.getElem?_eq_some_iff.1 hv).1
    have q := hc j hj
    have e : a.add j = ⟨a.block, a.off + j, none⟩ := by
      obtain ⟨b, o, s⟩ := a
      simp only at hsp
      subst hsp
      exact Addr.add_mid b o j
    rw [e] at q
    rw [q]
    exact hv
set_option maxRecDepth 100000 in
theorem openAnswerS {H : Type} {enc : TypeId × Value -> H} {W : World} {base n : Nat} {spare : Nat -> Bool} {held : Bool} {c : Value} {y : DataW H × List MemPlace}
    (g : DataW.trod enc Tryz.prog W base spare held n 31 [c] = some y) :
    ∃ (A : Option Addr) (cap : Nat) (l : List An), c = .slice A l.length cap /\ l.length <= 9223372036854775807 /\ (∀ x ∈ l, x.right) /\ At W A l := by
  rcases open_slice Tryz.underlying31 g with ⟨e2, _⟩ | ⟨a, len, cap, m, n', D, Pl, e2, _, hl, hm, hmm, _, hx⟩
  . simp at e2
    subst e2
    exact ⟨none, 0, [], rfl, by simp, by simp, .inl rfl⟩
  . simp at e2
    subst e2
    have hle : len <= m := by rw [hmm]; split<;>omega
    rw [cellsAns] at hx
    obtain ⟨X, hX⟩ := choose_lt (α := An) (p := fun i x => x.right /\ (a.add (i * 4)).spot = none /\ (a.add (i * 4)).block < W.heap.size /\ ∀ j v, (Cel.cs x)[j]? = some v -> W.cell? ⟨(a.add (i * 4)).block, (a.add (i * 4)).off + j, none⟩ = some v)
      (n := len) (fun i hi => by obtain ⟨cs', h1, h2⟩ := hx i (by omega); exact openAn h1 h2)
    obtain ⟨l, rfl, hR, hat⟩ := at_of (α := An) (by decide) (R := An.right) hX
    exact ⟨some a, cap, l, rfl, by simp [maxLen] at hm ⊢; omega, hR, hat⟩
end Go.Proofs.YtanihpmgoeadkaaGreat.Gen

/-
  Lists of numbers: how they lie, and what the laws' to, sz, eq, mark and held functions of them do. No condition but that there are at most 1048576.
-/
namespace Go.Proofs.YtanihpmgoeadkaaGreat.Gen
open Go.ChangeShapes Go.WideShapes Go.ChangeAt Go.RowKit Go.Joins Go.Deep Base
set_option linter.unusedVariables false
instance : Cel Int where
  k := 1
  cs x := [.int .i64 x]
  len _ := rfl
  one x u hu := by simp at hu; subst hu; rfl
theorem In.getInt {w : World} {b o : Nat} {l : List Int} (h : In w b o l) (i : Nat) (hi : i < l.length) : w.cell? ⟨b, o + i, none⟩ = some (.int .i64 l[i]) := by
  have := h.cell i hi (f := 0) rfl
  have e : o + i * Cel.k Int + 0 = o + i := by show o + i * 1 + 0 = o + i; omega
  rwa [e] at this
theorem there_int {w : World} {b o m n : Nat} (h : w.there b o (m * 1)) (hn : n < m) : (∃ v, w.cell? ⟨b, o + n, none⟩ = some v) /\ w.frozen? ⟨b, o + n, none⟩ = false := by
  have := there_at (f := 0) h hn (by omega)
  rwa [Nat.mul_one, Nat.add_zero] at this
theorem infoInt : (Tryz.prog.info? 3).map (fun i => (i.zero, i.size, i.bytes)) = some (some (.int .i64 0), 1, 8) := by kernel_rfl
theorem cellsInt : Tryz.prog.cellsOf 3 = 1 := by kernel_rfl
theorem szInt_any (A : Option Addr) (n cap : Nat) (hn : n <= 9223372036854775807) (left : Int) (h0 : 0 <= left) (h1 : left <= 1048576) (w : World) :
    Calls Tryz.prog 21 #[.slice A n cap, .int .i64 left] w fun e w' => e = .returned (.int .i64 (if left < n then -1 else left - n)) /\ w' = w := by
  by_cases h : left < n
  . have g : left - (n : Int) < 0 := by omega
    rw [if_pos h]
    go_enter Tryz.func21, Tryz.ntmps21
    go_wp2
    go_ret
    exact ⟨rfl, rfl⟩
  . have g : ¬ left - (n : Int) < 0 := by omega
    rw [if_neg h]
    go_enter Tryz.func21, Tryz.ntmps21
    go_wp2
    go_ret
    exact ⟨rfl, rfl⟩
theorem store_int {w : World} {b : Nat} {l : List Int} {n : Nat} (hin : In w b 0 (l.take n)) (hth : w.there b 0 (l.length * 1)) (hn : n < l.length) :
    In (w.setCell ⟨b, n, none⟩ (.int .i64 l[n])) b 0 (l.take (n + 1)) /\ (w.setCell ⟨b, n, none⟩ (.int .i64 l[n])).there b 0 (l.length * 1) := by
  have h := store_el hin hth hn
  have e : w.setCells b (n * Cel.k Int) (Cel.cs l[n]) = w.setCell ⟨b, n, none⟩ (.int .i64 l[n]) := by
    show (w.setCell ⟨b, n * 1, none⟩ (.int .i64 l[n])) = _
    rw [Nat.mul_one]
  rw [e] at h
  exact h
theorem toInt_any (A : Option Addr) (cap : Nat) (l : List Int) (hl : l.length <= 1048576) (w : World) (hA : At w A l) :
    Calls Tryz.prog 33 #[.slice A l.length cap] w fun e w' => e = .returned (.slice (some ⟨w.heap.size, 0, none⟩) l.length l.length) /\ Below w.heap.size w w' /\ w.heap.size < w'.heap.size /\ In w' w.heap.size 0 l /\ w'.there w.heap.size 0 (l.length * 1) := by
  have HA : Hid (At w A l) := hA
  clear hA
  have hmk := make_els (P := Tryz.prog) Tryz.underlying30 infoInt (by omega) l.length hl
  go_enter Tryz.func33, Tryz.ntmps33
  go_wp2
  go_loopw [4] (fun i w' => ∃ (n : Nat), i = .int .i64 (n : Int) /\ n <= l.length /\ Below w.heap.size w w' /\ w.heap.size < w'.heap.size /\ Hid (In w' w.heap.size 0 (l.take n)) /\ Hid (w'.there w.heap.size 0 (l.length * 1))) (fun i _ => l.length - (intOf i).toNat)
  case atStart => exact ⟨0, rfl, by omega, by repeat (first | exact Below.refl _ _ | refine via0 (by assumption) ?_ | refine Below.drew ?_ | refine alloc0 ?_ _), by simp, In.nil _ _ _, hidP (by have h := made_there w #[Value.int .i64 0] l.length 1 3; simpa using h)⟩
  case round =>
    obtain ⟨n, rfl, hn, hbl, hsz, hin, hth⟩ := hrel
    by_cases hlt : n < l.length
    . obtain ⟨b, o, rfl, hbs, hIn⟩ : ∃ b o, A = some ⟨b, o, none⟩ /\ b < w.heap.size /\ In w b o l := by
        rcases HA.out with h | h
        . subst h; simp at hlt
        . exact h
      have c0 := (hIn.below hbs hbl).getInt n hlt
      obtain ⟨⟨v0, d0⟩, f0⟩ := there_int hth.out hlt
      simp only [Nat.zero_add] at d0 f0
      go_wp2
      have hst := store_int hin.out hth.out hlt
      exact ⟨⟨n + 1, by go_num, by omega, hbl.setCell (Nat.le_refl _) _, by simpa using hsz, hst.1, hst.2⟩, by simp [intOf]; omega⟩
    . have e : l.take n = l := List.take_of_length_le (by omega)
      go_wp2
      go_ret
      exact ⟨rfl, hbl, hsz, by have := hin.out; rwa [e] at this, hth.out⟩
theorem eqInt_same (A A' : Option Addr) (cap cap' : Nat) (l : List Int) (hl : l.length <= 9223372036854775807) (w : World) (hA : At w A l) (hA' : At w A' l) :
    Calls Tryz.prog 41 #[.slice A l.length cap, .slice A' l.length cap'] w fun e w' => e = .returned (.bool true) /\ Below w.heap.size w w' := by
  have HA : Hid (At w A l) := hA
  have HA' : Hid (At w A' l) := hA'
  clear hA hA'
  go_enter Tryz.func41, Tryz.ntmps41
  go_wp2
  go_loopw [5] (fun i w' => ∃ (n : Nat), i = .int .i64 (n : Int) /\ n <= l.length /\ Below w.heap.size w w') (fun i _ => l.length - (intOf i).toNat)
  case atStart => exact ⟨0, rfl, by omega, Below.refl _ _⟩
  case round =>
    obtain ⟨n, rfl, hn, hbl⟩ := hrel
    by_cases hlt : n < l.length
    . obtain ⟨b, o, rfl, hbs, hin⟩ : ∃ b o, A = some ⟨b, o, none⟩ /\ b < w.heap.size /\ In w b o l := by
        rcases HA.out with h | h
        . subst h; simp at hlt
        . exact h
      obtain ⟨b', o', rfl, hbs', hin'⟩ : ∃ b o, A' = some ⟨b, o, none⟩ /\ b < w.heap.size /\ In w b o l := by
        rcases HA'.out with h | h
        . subst h; simp at hlt
        . exact h
      have c0 := (hin.below hbs hbl).getInt n hlt
      have d0 := (hin'.below hbs' hbl).getInt n hlt
      have hi0 : (0 : Int) <= (n : Int) := by omega
      have hi1 : (n : Int) < (l.length : Int) := by omega
      go_wp2
      go_region
      all_goals
        go_wp2
        exact ⟨⟨n + 1, by go_num, by omega, by repeat (first | exact hbl | refine Below.drew ?_)⟩, by simp [intOf]; omega⟩
    . go_wp2
      go_ret
      exact ⟨rfl, hbl⟩
theorem openInt1 {H : Type} {enc : TypeId × Value -> H} {w : World} {base n : Nat} {spare : Nat -> Bool} {held : Bool} {a : Addr} {cs : List Value} {y : DataW H × List MemPlace}
    (h1 : w.cells? base a 1 = some cs) (h2 : DataW.trod enc Tryz.prog w base spare held n 3 cs = some y) :
    ∃ x : Int, I64 x /\ a.spot = none /\ a.block < w.heap.size /\ ∀ j v, (Cel.cs x)[j]? = some v -> w.cell? ⟨a.block, a.off + j, none⟩ = some v := by
  obtain ⟨_, hlen, hc⟩ := World.cells?_some h1
  match cs, hlen with
  | [c0], _ =>
    obtain ⟨x, e0, _, w0⟩ := DataW.trod_int Tryz.underlying3 h2
    simp at e0
    subst e0
    have q0 := hc 0 (by omega)
    have hsp : a.spot = none := by
      cases hs : a.spot with
      | none => rfl
      | some s => exfalso; simp [Addr.add, World.cell?, hs] at q0; split at q0<;>simp at q0
    have hlt : a.block < w.heap.size := by
      rw [show a.add 0 = a from rfl] at q0
      unfold World.cell? at q0
      cases hh : w.heap[a.block]? with
      | none => simp [hh] at q0
      | some ob => exact (Array.getElem?_eq_some_iff.1 hh).1
    refine ⟨x, i64_of w0, hsp, hlt, ?_⟩
    intro j v hv
    have hj : j < 1 := (List.getElem?_eq_some_iff.1 hv).1
    have q := hc j hj
    have e : a.add j = ⟨a.block, a.off + j, none⟩ := by
      obtain ⟨b, o, s⟩ := a
      simp only at hsp
      subst hsp
      exact Addr.add_mid b o j
    rw [e] at q
    rw [q]
    exact hv
theorem openInts {H : Type} {enc : TypeId × Value -> H} {W : World} {base n : Nat} {spare : Nat -> Bool} {held : Bool} {c : Value} {y : DataW H × List MemPlace}
    (g : DataW.trod enc Tryz.prog W base spare held n 30 [c] = some y) :
    ∃ (A : Option Addr) (cap : Nat) (l : List Int), c = .slice A l.length cap /\ l.length <= 9223372036854775807 /\ (∀ x ∈ l, I64 x) /\ At W A l := by
  rcases open_slice Tryz.underlying30 g with ⟨e2, _⟩ | ⟨a, len, cap, m, n', D, Pl, e2, _, hl, hm, hmm, _, hx⟩
  . simp at e2
    subst e2
    exact ⟨none, 0, [], rfl, by simp, by simp, .inl rfl⟩
  . simp at e2
    subst e2
    have hle : len <= m := by rw [hmm]; split<;>omega
    rw [cellsInt] at hx
    obtain ⟨X, hX⟩ := choose_lt (α := Int) (p := fun i x => I64 x /\ (a.add (i * 1)).spot = none /\ (a.add (i * 1)).block < W.heap.size /\ ∀ j v, (Cel.cs x)[j]? = some v -> W.cell? ⟨(a.add (i * 1)).block, (a.add (i * 1)).off + j, none⟩ = some v)
      (n := len) (fun i hi => by obtain ⟨cs', h1, h2⟩ := hx i (by omega); exact openInt1 h1 h2)
    obtain ⟨l, rfl, hR, hat⟩ := at_of (α := Int) (by decide) (R := I64) hX
    exact ⟨some a, cap, l, rfl, by simp [maxLen] at hm ⊢; omega, hR, hat⟩
end Go.Proofs.YtanihpmgoeadkaaGreat.Gen

/-
  Lists of flags: how they lie, and what the laws' to, sz, eq, mark and held functions of them do. No condition but that there are at most 1048576.
-/
namespace Go.Proofs.YtanihpmgoeadkaaGreat.Gen
open Go.ChangeShapes Go.WideShapes Go.ChangeAt Go.RowKit Go.Joins Go.Deep Base
set_option linter.unusedVariables false
instance : Cel Bool where
  k := 1
  cs x := [.bool x]
  len _ := rfl
  one x u hu := by simp at hu; subst hu; rfl
theorem In.getBool {w : World} {b o : Nat} {l : List Bool} (h : In w b o l) (i : Nat) (hi : i < l.length) : w.cell? ⟨b, o + i, none⟩ = some (.bool l[i]) := by
  have := h.cell i hi (f := 0) rfl
  have e : o + i * Cel.k Bool + 0 = o + i := by show o + i * 1 + 0 = o + i; omega
  rwa [e] at this
theorem infoBool : (Tryz.prog.info? 4).map (fun i => (i.zero, i.size, i.bytes)) = some (some (.bool false), 1, 1) := by kernel_rfl
theorem cellsBool : Tryz.prog.cellsOf 4 = 1 := by kernel_rfl
theorem szBool_any (A : Option Addr) (n cap : Nat) (hn : n <= 9223372036854775807) (left : Int) (h0 : 0 <= left) (h1 : left <= 1048576) (w : World) :
    Calls Tryz.prog 20 #[.slice A n cap, .int .i64 left] w fun e w' => e = .returned (.int .i64 (if left < n then -1 else left - n)) /\ w' = w := by
  by_cases h : left < n
  . have g : left - (n : Int) < 0 := by omega
    rw [if_pos h]
    go_enter Tryz.func20, Tryz.ntmps20
    go_wp2
    go_ret
    exact ⟨rfl, rfl⟩
  . have g : ¬ left - (n : Int) < 0 := by omega
    rw [if_neg h]
    go_enter Tryz.func20, Tryz.ntmps20
    go_wp2
    go_ret
    exact ⟨rfl, rfl⟩
theorem store_bool {w : World} {b : Nat} {l : List Bool} {n : Nat} (hin : In w b 0 (l.take n)) (hth : w.there b 0 (l.length * 1)) (hn : n < l.length) :
    In (w.setCell ⟨b, n, none⟩ (.bool l[n])) b 0 (l.take (n + 1)) /\ (w.setCell ⟨b, n, none⟩ (.bool l[n])).there b 0 (l.length * 1) := by
  have h := store_el hin hth hn
  have e : w.setCells b (n * Cel.k Bool) (Cel.cs l[n]) = w.setCell ⟨b, n, none⟩ (.bool l[n]) := by
    show (w.setCell ⟨b, n * 1, none⟩ (.bool l[n])) = _
    rw [Nat.mul_one]
  rw [e] at h
  exact h
theorem toBool_any (A : Option Addr) (cap : Nat) (l : List Bool) (hl : l.length <= 1048576) (w : World) (hA : At w A l) :
    Calls Tryz.prog 32 #[.slice A l.length cap] w fun e w' => e = .returned (.slice (some ⟨w.heap.size, 0, none⟩) l.length l.length) /\ Below w.heap.size w w' /\ w.heap.size < w'.heap.size /\ In w' w.heap.size 0 l /\ w'.there w.heap.size 0 (l.length * 1) := by
  have HA : Hid (At w A l) := hA
  clear hA
  have hmk := make_els (P := Tryz.prog) Tryz.underlying36 infoBool (by omega) l.length hl
  go_enter Tryz.func32, Tryz.ntmps32
  go_wp2
  go_loopw [4] (fun i w' => ∃ (n : Nat), i = .int .i64 (n : Int) /\ n <= l.length /\ Below w.heap.size w w' /\ w.heap.size < w'.heap.size /\ Hid (In w' w.heap.size 0 (l.take n)) /\ Hid (w'.there w.heap.size 0 (l.length * 1))) (fun i _ => l.length - (intOf i).toNat)
  case atStart => exact ⟨0, rfl, by omega, by repeat (first | exact Below.refl _ _ | refine via0 (by assumption) ?_ | refine Below.drew ?_ | refine alloc0 ?_ _), by simp, In.nil _ _ _, hidP (by have h := made_there w #[Value.bool false] l.length 1 4; simpa using h)⟩
  case round =>
    obtain ⟨n, rfl, hn, hbl, hsz, hin, hth⟩ := hrel
    by_cases hlt : n < l.length
    . obtain ⟨b, o, rfl, hbs, hIn⟩ : ∃ b o, A = some ⟨b, o, none⟩ /\ b < w.heap.size /\ In w b o l := by
        rcases HA.out with h | h
        . subst h; simp at hlt
        . exact h
      have c0 := (hIn.below hbs hbl).getBool n hlt
      obtain ⟨⟨v0, d0⟩, f0⟩ := there_int hth.out hlt
      simp only [Nat.zero_add] at d0 f0
      go_wp2
      have hst := store_bool hin.out hth.out hlt
      exact ⟨⟨n + 1, by go_num, by omega, hbl.setCell (Nat.le_refl _) _, by simpa using hsz, hst.1, hst.2⟩, by simp [intOf]; omega⟩
    . have e : l.take n = l := List.take_of_length_le (by omega)
      go_wp2
      go_ret
      exact ⟨rfl, hbl, hsz, by have := hin.out; rwa [e] at this, hth.out⟩
theorem eqBool_same (A A' : Option Addr) (cap cap' : Nat) (l : List Bool) (hl : l.length <= 9223372036854775807) (w : World) (hA : At w A l) (hA' : At w A' l) :
    Calls Tryz.prog 40 #[.slice A l.length cap, .slice A' l.length cap'] w fun e w' => e = .returned (.bool true) /\ Below w.heap.size w w' := by
  have HA : Hid (At w A l) := hA
  have HA' : Hid (At w A' l) := hA'
  clear hA hA'
  go_enter Tryz.func40, Tryz.ntmps40
  go_wp2
  go_loopw [5] (fun i w' => ∃ (n : Nat), i = .int .i64 (n : Int) /\ n <= l.length /\ Below w.heap.size w w') (fun i _ => l.length - (intOf i).toNat)
  case atStart => exact ⟨0, rfl, by omega, Below.refl _ _⟩
  case round =>
    obtain ⟨n, rfl, hn, hbl⟩ := hrel
    by_cases hlt : n < l.length
    . obtain ⟨b, o, rfl, hbs, hin⟩ : ∃ b o, A = some ⟨b, o, none⟩ /\ b < w.heap.size /\ In w b o l := by
        rcases HA.out with h | h
        . subst h; simp at hlt
        . exact h
      obtain ⟨b', o', rfl, hbs', hin'⟩ : ∃ b o, A' = some ⟨b, o, none⟩ /\ b < w.heap.size /\ In w b o l := by
        rcases HA'.out with h | h
        . subst h; simp at hlt
        . exact h
      have c0 := (hin.below hbs hbl).getBool n hlt
      have d0 := (hin'.below hbs' hbl).getBool n hlt
      have hi0 : (0 : Int) <= (n : Int) := by omega
      have hi1 : (n : Int) < (l.length : Int) := by omega
      go_wp2
      go_region
      all_goals
        go_wp2
        exact ⟨⟨n + 1, by go_num, by omega, by repeat (first | exact hbl | refine Below.drew ?_)⟩, by simp [intOf]; omega⟩
    . go_wp2
      go_ret
      exact ⟨rfl, hbl⟩
theorem openBool1 {H : Type} {enc : TypeId × Value -> H} {w : World} {base n : Nat} {spare : Nat -> Bool} {held : Bool} {a : Addr} {cs : List Value} {y : DataW H × List MemPlace}
    (h1 : w.cells? base a 1 = some cs) (h2 : DataW.trod enc Tryz.prog w base spare held n 4 cs = some y) :
    ∃ x : Bool, True /\ a.spot = none /\ a.block < w.heap.size /\ ∀ j v, (Cel.cs x)[j]? = some v -> w.cell? ⟨a.block, a.off + j, none⟩ = some v := by
  obtain ⟨_, hlen, hc⟩ := World.cells?_some h1
  match cs, hlen with
  | [c0], _ =>
    obtain ⟨x, e0, _⟩ := DataW.trod_bool Tryz.underlying4 h2
    simp at e0
    subst e0
    have q0 := hc 0 (by omega)
    have hsp : a.spot = none := by
      cases hs : a.spot with
      | none => rfl
      | some s => exfalso; simp [Addr.add, World.cell?, hs] at q0; split at q0<;>simp at q0
    have hlt : a.block < w.heap.size := by
      rw [show a.add 0 = a from rfl] at q0
      unfold World.cell? at q0
      cases hh : w.heap[a.block]? with
      | none => simp [hh] at q0
      | some ob => exact (Array.getElem?_eq_some_iff.1 hh).1
    refine ⟨x, trivial, hsp, hlt, ?_⟩
    intro j v hv
    have hj : j < 1 := (List.getElem?_eq_some_iff.1 hv).1
    have q := hc j hj
    have e : a.add j = ⟨a.block, a.off + j, none⟩ := by
      obtain ⟨b, o, s⟩ := a
      simp only at hsp
      subst hsp
      exact Addr.add_mid b o j
    rw [e] at q
    rw [q]
    exact hv
theorem openBools {H : Type} {enc : TypeId × Value -> H} {W : World} {base n : Nat} {spare : Nat -> Bool} {held : Bool} {c : Value} {y : DataW H × List MemPlace}
    (g : DataW.trod enc Tryz.prog W base spare held n 36 [c] = some y) :
    ∃ (A : Option Addr) (cap : Nat) (l : List Bool), c = .slice A l.length cap /\ l.length <= 9223372036854775807 /\ At W A l := by
  rcases open_slice Tryz.underlying36 g with ⟨e2, _⟩ | ⟨a, len, cap, m, n', D, Pl, e2, _, hl, hm, hmm, _, hx⟩
  . simp at e2
    subst e2
    exact ⟨none, 0, [], rfl, by simp, .inl rfl⟩
  . simp at e2
    subst e2
    have hle : len <= m := by rw [hmm]; split<;>omega
    rw [cellsBool] at hx
    obtain ⟨X, hX⟩ := choose_lt (α := Bool) (p := fun i x => True /\ (a.add (i * 1)).spot = none /\ (a.add (i * 1)).block < W.heap.size /\ ∀ j v, (Cel.cs x)[j]? = some v -> W.cell? ⟨(a.add (i * 1)).block, (a.add (i * 1)).off + j, none⟩ = some v)
      (n := len) (fun i hi => by obtain ⟨cs', h1, h2⟩ := hx i (by omega); exact openBool1 h1 h2)
    obtain ⟨l, rfl, hR, hat⟩ := at_of (α := Bool) (by decide) (R := fun _ => True) hX
    exact ⟨some a, cap, l, rfl, by simp [maxLen] at hm ⊢; omega, hat⟩
end Go.Proofs.YtanihpmgoeadkaaGreat.Gen

/-
  Lists of bytes: how they lie, and what the laws' to, eq, mark and held functions of them do. No condition but that there are at most 1048576.
-/
namespace Go.Proofs.YtanihpmgoeadkaaGreat.Gen
open Go.ChangeShapes Go.WideShapes Go.ChangeAt Go.RowKit Go.Joins Go.Deep Base
set_option linter.unusedVariables false
instance : Cel UInt8 where
  k := 1
  cs x := [.int .u8 (x.toNat : Int)]
  len _ := rfl
  one x u hu := by simp at hu; subst hu; rfl
theorem In.getB {w : World} {b o : Nat} {l : List UInt8} (h : In w b o l) (i : Nat) (hi : i < l.length) : w.cell? ⟨b, o + i, none⟩ = some (.int .u8 (l[i].toNat : Int)) := by
  have := h.cell i hi (f := 0) rfl
  have e : o + i * Cel.k UInt8 + 0 = o + i := by show o + i * 1 + 0 = o + i; omega
  rwa [e] at this
theorem there_one {w : World} {b o m n : Nat} (h : w.there b o (m * 1)) (hn : n < m) : (∃ v, w.cell? ⟨b, o + n, none⟩ = some v) /\ w.frozen? ⟨b, o + n, none⟩ = false := by
  have := there_at (f := 0) h hn (by omega)
  rwa [Nat.mul_one, Nat.add_zero] at this
theorem infoB : (Tryz.prog.info? 5).map (fun i => (i.zero, i.size, i.bytes)) = some (some (.int .u8 0), 1, 1) := by kernel_rfl
theorem cellsB : Tryz.prog.cellsOf 5 = 1 := by kernel_rfl
theorem store_b {w : World} {b : Nat} {l : List UInt8} {n : Nat} (hin : In w b 0 (l.take n)) (hth : w.there b 0 (l.length * 1)) (hn : n < l.length) :
    In (w.setCell ⟨b, n, none⟩ (.int .u8 (l[n].toNat : Int))) b 0 (l.take (n + 1)) /\ (w.setCell ⟨b, n, none⟩ (.int .u8 (l[n].toNat : Int))).there b 0 (l.length * 1) := by
  have h := store_el hin hth hn
  have e : w.setCells b (n * Cel.k UInt8) (Cel.cs l[n]) = w.setCell ⟨b, n, none⟩ (.int .u8 (l[n].toNat : Int)) := by
    show (w.setCell ⟨b, n * 1, none⟩ (.int .u8 (l[n].toNat : Int))) = _
    rw [Nat.mul_one]
  rw [e] at h
  exact h
theorem toB_any (A : Option Addr) (cap : Nat) (l : List UInt8) (hl : l.length <= 1048576) (w : World) (hA : At w A l) :
    Calls Tryz.prog 84 #[.slice A l.length cap] w fun e w' => e = .returned (.slice (some ⟨w.heap.size, 0, none⟩) l.length l.length) /\ Below w.heap.size w w' /\ w.heap.size < w'.heap.size /\ In w' w.heap.size 0 l /\ w'.there w.heap.size 0 (l.length * 1) := by
  have HA : Hid (At w A l) := hA
  clear hA
  have hmk := make_els (P := Tryz.prog) Tryz.underlying37 infoB (by omega) l.length hl
  go_enter Tryz.func84, Tryz.ntmps84
  go_wp2
  go_loopw [4] (fun i w' => ∃ (n : Nat), i = .int .i64 (n : Int) /\ n <= l.length /\ Below w.heap.size w w' /\ w.heap.size < w'.heap.size /\ Hid (In w' w.heap.size 0 (l.take n)) /\ Hid (w'.there w.heap.size 0 (l.length * 1))) (fun i _ => l.length - (intOf i).toNat)
  case atStart => exact ⟨0, rfl, by omega, by repeat (first | exact Below.refl _ _ | refine via0 (by assumption) ?_ | refine Below.drew ?_ | refine alloc0 ?_ _), by simp, In.nil _ _ _, hidP (by have h := made_there w #[Value.int .u8 0] l.length 1 5; simpa using h)⟩
  case round =>
    obtain ⟨n, rfl, hn, hbl, hsz, hin, hth⟩ := hrel
    by_cases hlt : n < l.length
    . obtain ⟨b, o, rfl, hbs, hIn⟩ : ∃ b o, A = some ⟨b, o, none⟩ /\ b < w.heap.size /\ In w b o l := by
        rcases HA.out with h | h
        . subst h; simp at hlt
        . exact h
      have c0 := (hIn.below hbs hbl).getB n hlt
      obtain ⟨⟨v0, d0⟩, f0⟩ := there_one hth.out hlt
      simp only [Nat.zero_add] at d0 f0
      go_wp2
      have hst := store_b hin.out hth.out hlt
      exact ⟨⟨n + 1, by go_num, by omega, hbl.setCell (Nat.le_refl _) _, by simpa using hsz, hst.1, hst.2⟩, by simp [intOf]; omega⟩
    . have e : l.take n = l := List.take_of_length_le (by omega)
      go_wp2
      go_ret
      exact ⟨rfl, hbl, hsz, by have := hin.out; rwa [e] at this, hth.out⟩
theorem eqB_same (A A' : Option Addr) (cap cap' : Nat) (l : List UInt8) (hl : l.length <= 9223372036854775807) (w : World) (hA : At w A l) (hA' : At w A' l) :
    Calls Tryz.prog 99 #[.slice A l.length cap, .slice A' l.length cap'] w fun e w' => e = .returned (.bool true) /\ Below w.heap.size w w' := by
  have HA : Hid (At w A l) := hA
  have HA' : Hid (At w A' l) := hA'
  clear hA hA'
  go_enter Tryz.func99, Tryz.ntmps99
  go_wp2
  go_loopw [5] (fun i w' => ∃ (n : Nat), i = .int .i64 (n : Int) /\ n <= l.length /\ Below w.heap.size w w') (fun i _ => l.length - (intOf i).toNat)
  case atStart => exact ⟨0, rfl, by omega, Below.refl _ _⟩
  case round =>
    obtain ⟨n, rfl, hn, hbl⟩ := hrel
    by_cases hlt : n < l.length
    . obtain ⟨b, o, rfl, hbs, hin⟩ : ∃ b o, A = some ⟨b, o, none⟩ /\ b < w.heap.size /\ In w b o l := by
        rcases HA.out with h | h
        . subst h; simp at hlt
        . exact h
      obtain ⟨b', o', rfl, hbs', hin'⟩ : ∃ b o, A' = some ⟨b, o, none⟩ /\ b < w.heap.size /\ In w b o l := by
        rcases HA'.out with h | h
        . subst h; simp at hlt
        . exact h
      have c0 := (hin.below hbs hbl).getB n hlt
      have d0 := (hin'.below hbs' hbl).getB n hlt
      have hi0 : (0 : Int) <= (n : Int) := by omega
      have hi1 : (n : Int) < (l.length : Int) := by omega
      go_wp2
      go_region
      all_goals
        go_wp2
        exact ⟨⟨n + 1, by go_num, by omega, by repeat (first | exact hbl | refine Below.drew ?_)⟩, by simp [intOf]; omega⟩
    . go_wp2
      go_ret
      exact ⟨rfl, hbl⟩
def u8 (z : Int) : UInt8 := UInt8.ofNat (z % 256).toNat
theorem u8_toNat (z : Int) : ((u8 z).toNat : Int) = z % 256 := by
  unfold u8
  rw [UInt8.toNat_ofNat']
  omega
theorem openB1 {H : Type} {enc : TypeId × Value -> H} {w : World} {base n : Nat} {spare : Nat -> Bool} {held : Bool} {a : Addr} {cs : List Value} {y : DataW H × List MemPlace}
    (h1 : w.cells? base a 1 = some cs) (h2 : DataW.trod enc Tryz.prog w base spare held n 5 cs = some y) :
    ∃ x : UInt8, True /\ a.spot = none /\ a.block < w.heap.size /\ ∀ j v, (Cel.cs x)[j]? = some v -> w.cell? ⟨a.block, a.off + j, none⟩ = some v := by
  obtain ⟨_, hlen, hc⟩ := World.cells?_some h1
  match cs, hlen with
  | [c0], _ =>
    obtain ⟨x, e0, _, w0⟩ := DataW.trod_int Tryz.underlying5 h2
    simp at e0
    subst e0
    have hx : 0 <= x /\ x <= 255 := by simpa [Lit.wf, IntKind.min, IntKind.max, IntKind.signed, IntKind.bits] using w0
    have q0 := hc 0 (by omega)
    have hsp : a.spot = none := by
      cases hs : a.spot with
      | none => rfl
      | some s => exfalso; simp [Addr.add, World.cell?, hs] at q0; split at q0<;>simp at q0
    have hlt : a.block < w.heap.size := by
      rw [show a.add 0 = a from rfl] at q0
      unfold World.cell? at q0
      cases hh : w.heap[a.block]? with
      | none => simp [hh] at q0
      | some ob => exact (Array.getElem?_eq_some_iff.1 hh).1
    refine ⟨u8 x, trivial, hsp, hlt, ?_⟩
    intro j v hv
    have hj : j < 1 := (List.getElem?_eq_some_iff.1 hv).1
    have q := hc j hj
    have e : a.add j = ⟨a.block, a.off + j, none⟩ := by
      obtain ⟨b, o, s⟩ := a
      simp only at hsp
      subst hsp
      exact Addr.add_mid b o j
    rw [e] at q
    rw [q]
    have e8 : ((u8 x).toNat : Int) = x := by rw [u8_toNat]; omega
    have ec : (Cel.cs (u8 x) : List Value) = [.int .u8 x] := by show [Value.int .u8 ((u8 x).toNat : Int)] = _; rw [e8]
    rw [ec] at hv
    exact hv
theorem openBs {H : Type} {enc : TypeId × Value -> H} {W : World} {base n : Nat} {spare : Nat -> Bool} {held : Bool} {c : Value} {y : DataW H × List MemPlace}
    (g : DataW.trod enc Tryz.prog W base spare held n 37 [c] = some y) :
    ∃ (A : Option Addr) (cap : Nat) (l : List UInt8), c = .slice A l.length cap /\ l.length <= 9223372036854775807 /\ At W A l := by
  rcases open_slice Tryz.underlying37 g with ⟨e2, _⟩ | ⟨a, len, cap, m, n', D, Pl, e2, _, hl, hm, hmm, _, hx⟩
  . simp at e2
    subst e2
    exact ⟨none, 0, [], rfl, by simp, .inl rfl⟩
  . simp at e2
    subst e2
    have hle : len <= m := by rw [hmm]; split<;>omega
    rw [cellsB] at hx
    obtain ⟨X, hX⟩ := choose_lt (α := UInt8) (p := fun i x => True /\ (a.add (i * 1)).spot = none /\ (a.add (i * 1)).block < W.heap.size /\ ∀ j v, (Cel.cs x)[j]? = some v -> W.cell? ⟨(a.add (i * 1)).block, (a.add (i * 1)).off + j, none⟩ = some v)
      (n := len) (fun i hi => by obtain ⟨cs', h1, h2⟩ := hx i (by omega); exact openB1 h1 h2)
    obtain ⟨l, rfl, hR, hat⟩ := at_of (α := UInt8) (by decide) (R := fun _ => True) hX
    exact ⟨some a, cap, l, rfl, by simp [maxLen] at hm ⊢; omega, hat⟩
end Go.Proofs.YtanihpmgoeadkaaGreat.Gen

/-
  Commands at this seat: what the laws' toCmd and szCmd answer. No condition but the length that every text has.
-/
namespace Go.Proofs.YtanihpmgoeadkaaGreat.Cmd
open Go.ChangeShapes Go.WideShapes Go.ChangeAt Go.RowKit Base
set_option linter.unusedVariables false
theorem to_any (who seq op a b c : Int) (k t : ByteArray) (w : World) :
    Calls Tryz.prog 171 #[.agg #[.int .i64 who, .int .i64 seq, .int .i64 op, .int .i64 a, .int .i64 b, .int .i64 c, .string k, .string t]] w fun e w' => e = .returned (.agg #[.int .i64 who, .int .i64 seq, .int .i64 op, .int .i64 a, .int .i64 b, .int .i64 c, .string k, .string t]) /\ Below w.heap.size w w' := by
  go_enter Tryz.func171, Tryz.ntmps171
  go_wp2
  exact bodyPost_ret (v := .agg #[.int .i64 who, .int .i64 seq, .int .i64 op, .int .i64 a, .int .i64 b, .int .i64 c, .string k, .string t]) (by simp [results, Tryz.results171, go_sem]) rfl
    ⟨rfl, by repeat (first | exact Below.refl _ _ | refine Below.drew ?_ | refine Below.alloc ?_ (by simp<;>omega) _)⟩
end Go.Proofs.YtanihpmgoeadkaaGreat.Cmd

/-
  Parts of CmdOk at this seat: numbers within limits, plain texts, names of Ops. No condition but the length that every text has.
-/
namespace Go.Proofs.YtanihpmgoeadkaaGreat.CmdOk
open Go.ChangeShapes Go.WideShapes Go.ChangeAt Go.RowKit Go.Joins Base
set_option linter.unusedVariables false
def inB (x lo hi : Int) : Bool := decide (lo <= x /\ x <= hi)
theorem in_any (x lo hi : Int) (w : World) :
    Calls Tryz.prog 25 #[.int .i64 x, .int .i64 lo, .int .i64 hi] w fun e w' => e = .returned (.bool (inB x lo hi)) /\ w' = w := by
  by_cases h1 : lo <= x<;>by_cases h2 : x <= hi <;>
  . go_enter Tryz.func25, Tryz.ntmps25
    go_wp2
    go_ret
    exact ⟨by simp [inB, h1, h2], rfl⟩
theorem within_any (x lo hi : Int) (w : World) :
    Calls Tryz.prog 88 #[.int .i64 x, .int .i64 lo, .int .i64 hi] w fun e w' => e = .returned (.bool (inB x lo hi)) /\ w' = w := by
  by_cases h1 : lo <= x<;>by_cases h2 : x <= hi <;>
  . go_enter Tryz.func88, Tryz.ntmps88
    go_wp2
    go_ret
    exact ⟨by simp [inB, h1, h2], rfl⟩
def plainN (x : Nat) : Bool := decide ((97 <= x /\ x <= 122) ∨ (48 <= x /\ x <= 57) ∨ x = 32)
theorem plain_ways (x : Nat) :
    ((97 : Int) <= x /\ (x : Int) <= 122 /\ plainN x = true) ∨ ((97 : Int) <= x /\ ¬ (x : Int) <= 122 /\ (48 : Int) <= x /\ ¬ (x : Int) <= 57 /\ ((x : Int) == 32) = false /\ plainN x = false) ∨
    (¬ (97 : Int) <= x /\ (48 : Int) <= x /\ (x : Int) <= 57 /\ plainN x = true) ∨ (¬ (97 : Int) <= x /\ (48 : Int) <= x /\ ¬ (x : Int) <= 57 /\ ((x : Int) == 32) = false /\ plainN x = false) ∨
    (¬ (97 : Int) <= x /\ ¬ (48 : Int) <= x /\ ((x : Int) == 32) = true /\ plainN x = true) ∨ (¬ (97 : Int) <= x /\ ¬ (48 : Int) <= x /\ ((x : Int) == 32) = false /\ plainN x = false) := by
  simp only [beq_eq_false_iff_ne, beq_iff_eq, ne_eq, plainN, decide_eq_true_eq, decide_eq_false_iff_not]
  omega
theorem plain_any (x : Nat) (w : World) :
    Calls Tryz.prog 210 #[.int .u8 (x : Int)] w fun e w' => e = .returned (.bool (plainN x)) /\ w' = w := by
  rcases plain_ways x with ⟨h1, h2, hp⟩ | ⟨h1, h2, h3, h4, h5, hp⟩ | ⟨h1, h2, h3, hp⟩ | ⟨h1, h2, h3, h4, hp⟩ | ⟨h1, h2, h3, hp⟩ | ⟨h1, h2, h3, hp⟩ <;>
  . rw [hp]
    go_enter Tryz.func210, Tryz.ntmps210
    go_wp2
    go_ret
    exact ⟨rfl, rfl⟩
def allFrom (s : ByteArray) (i : Nat) : Bool := (s.data.toList.drop i).all (fun x => plainN x.toNat)
def textB (s : ByteArray) : Bool := allFrom s 0 && decide (s.size <= 30)
theorem allFrom_end {s : ByteArray} {i : Nat} (h : s.size <= i) : allFrom s i = true := by
  have : s.data.toList.drop i = [] := List.drop_eq_nil_of_le (by simpa using h)
  simp [allFrom, this]
theorem allFrom_step {s : ByteArray} {i : Nat} (h : i < s.size) : allFrom s i = (plainN (s[i]'h).toNat && allFrom s (i + 1)) := by
  have h' : i < s.data.toList.length := by simpa using h
  unfold allFrom
  rw [List.drop_eq_getElem_cons h', List.all_cons]
  rfl
theorem implText_any (s : ByteArray) (hs : s.size <= 9223372036854775807) (w : World) :
    Calls Tryz.prog 199 #[.string s] w fun e w' => e = .returned (.bool (textB s)) /\ Below w.heap.size w w' := by
  by_cases hl : (s.size : Int) > 30
  . have e1 : textB s = false := by simp [textB]; omega
    rw [e1]
    go_enter Tryz.func199, Tryz.ntmps199
    go_wp2
    go_ret
    exact ⟨rfl, Below.refl _ _⟩
  . have e1 : textB s = allFrom s 0 := by simp [textB]; omega
    rw [e1]
    go_enter Tryz.func199, Tryz.ntmps199
    go_wp2
    go_loopw [3] (fun i w' => ∃ n : Nat, i = .int .i64 (n : Int) /\ n <= s.size /\ allFrom s n = allFrom s 0 /\ Below w.heap.size w w') (fun i _ => s.size - (intOf i).toNat)
    case atStart => exact ⟨0, rfl, by omega, rfl, Below.refl _ _⟩
    case round =>
      obtain ⟨n, rfl, hn, hE, hb⟩ := hrel
      by_cases hlt : n < s.size
      . have hst := allFrom_step hlt
        cases hp : plainN s[n].toNat
        . have hE' : allFrom s 0 = false := by rw [← hE, hst, hp]; rfl
          clear hE hst
          go_wp2_with (go_at_call 210; refine (plain_any _ _).mono ?_; rintro e w' ⟨rfl, rfl⟩)
          go_ret
          exact ⟨by first | rfl | (rw [hE']; rfl), hb⟩
        . have hE' : allFrom s (n + 1) = allFrom s 0 := by rw [← hE, hst, hp]; rfl
          clear hE hst
          go_wp2_with (go_at_call 210; refine (plain_any _ _).mono ?_; rintro e w' ⟨rfl, rfl⟩)
          exact ⟨⟨n + 1, by go_num, by omega, hE', hb⟩, by simp [intOf]; omega⟩
      . have hE' : allFrom s 0 = true := by rw [← hE, allFrom_end (by omega)]
        go_wp2
        go_ret
        exact ⟨by first | rfl | (rw [hE']; rfl), hb⟩
theorem specText_any (s : ByteArray) (hs : s.size <= 9223372036854775807) (w : World) :
    Calls Tryz.prog 135 #[.string s] w fun e w' => e = .returned (.bool (textB s)) /\ Below w.heap.size w w' := by
  go_enter Tryz.func135, Tryz.ntmps135
  go_wp2
  go_loopw [3] (fun i w' => ∃ n : Nat, i = .int .i64 (n : Int) /\ n <= s.size /\ allFrom s n = allFrom s 0 /\ Below w.heap.size w w') (fun i _ => s.size - (intOf i).toNat)
  case atStart => exact ⟨0, rfl, by omega, rfl, Below.refl _ _⟩
  case round =>
    obtain ⟨n, rfl, hn, hE, hb⟩ := hrel
    by_cases hlt : n < s.size
    . have hst := allFrom_step hlt
      rcases plain_ways s[n].toNat with ⟨h1, h2, hp⟩ | ⟨h1, h2, h3, h4, h5, hp⟩ | ⟨h1, h2, h3, hp⟩ | ⟨h1, h2, h3, h4, hp⟩ | ⟨h1, h2, h3, hp⟩ | ⟨h1, h2, h3, hp⟩
      . have hE' : allFrom s (n + 1) = allFrom s 0 := by rw [← hE, hst, hp]; rfl
        clear hE hst hp
        go_wp2
        exact ⟨⟨n + 1, by go_num, by omega, hE', hb⟩, by simp [intOf]; omega⟩
      . have hE' : textB s = false := by
          have h0 : allFrom s 0 = false := by rw [← hE, hst, hp]; rfl
          simp [textB, h0]
        clear hE hst hp
        go_wp2
        go_ret
        exact ⟨by first | rfl | (rw [hE']; rfl), hb⟩
      . have hE' : allFrom s (n + 1) = allFrom s 0 := by rw [← hE, hst, hp]; rfl
        clear hE hst hp
        go_wp2
        exact ⟨⟨n + 1, by go_num, by omega, hE', hb⟩, by simp [intOf]; omega⟩
      . have hE' : textB s = false := by
          have h0 : allFrom s 0 = false := by rw [← hE, hst, hp]; rfl
          simp [textB, h0]
        clear hE hst hp
        go_wp2
        go_ret
        exact ⟨by first | rfl | (rw [hE']; rfl), hb⟩
      . have hE' : allFrom s (n + 1) = allFrom s 0 := by rw [← hE, hst, hp]; rfl
        clear hE hst hp
        go_wp2
        exact ⟨⟨n + 1, by go_num, by omega, hE', hb⟩, by simp [intOf]; omega⟩
      . have hE' : textB s = false := by
          have h0 : allFrom s 0 = false := by rw [← hE, hst, hp]; rfl
          simp [textB, h0]
        clear hE hst hp
        go_wp2
        go_ret
        exact ⟨by first | rfl | (rw [hE']; rfl), hb⟩
    . have hE' : allFrom s 0 = true := by rw [← hE, allFrom_end (by omega)]
      have hE2 : textB s = decide (s.size <= 30) := by simp [textB, hE']
      by_cases hl : (s.size : Int) <= 30
      . have : s.size <= 30 := by omega
        go_wp2
        go_ret
        exact ⟨by first | (rw [hE2]; simp [this]; done) | simp, hb⟩
      . have : ¬ s.size <= 30 := by omega
        go_wp2
        go_ret
        exact ⟨by first | (rw [hE2]; simp [this]; done) | simp, hb⟩
theorem names_any (w : World) :
    Calls Tryz.prog 213 #[] w fun e w' => e = .returned (.agg #[.string ⟨#[110, 111, 110, 101]⟩, .string ⟨#[112, 117, 116]⟩, .string ⟨#[103, 101, 116]⟩, .string ⟨#[101, 112, 111, 99, 104]⟩, .string ⟨#[106, 111, 105, 110]⟩, .string ⟨#[108, 101, 97, 118, 101]⟩, .string ⟨#[109, 97, 114, 107]⟩, .string ⟨#[114, 101, 97, 100]⟩, .string ⟨#[116, 105, 99, 107]⟩, .string ⟨#[116, 114, 105, 109]⟩, .string ⟨#[112, 97, 99, 107]⟩]) /\ Below w.heap.size w w' := by
  go_enter Tryz.func213, Tryz.ntmps213
  go_wp2
  exact bodyPost_ret (v := .agg #[.string ⟨#[110, 111, 110, 101]⟩, .string ⟨#[112, 117, 116]⟩, .string ⟨#[103, 101, 116]⟩, .string ⟨#[101, 112, 111, 99, 104]⟩, .string ⟨#[106, 111, 105, 110]⟩, .string ⟨#[108, 101, 97, 118, 101]⟩, .string ⟨#[109, 97, 114, 107]⟩, .string ⟨#[114, 101, 97, 100]⟩, .string ⟨#[116, 105, 99, 107]⟩, .string ⟨#[116, 114, 105, 109]⟩, .string ⟨#[112, 97, 99, 107]⟩]) (by simp [results, Tryz.results213, go_sem]) rfl
    ⟨rfl, by repeat (first | exact Below.refl _ _ | refine Below.drew ?_ | refine Below.alloc ?_ (by simp<;>omega) _)⟩
theorem reach_any (op : Int) (w : World) :
    Calls Tryz.prog 216 #[.agg #[.string ⟨#[110, 111, 110, 101]⟩, .string ⟨#[112, 117, 116]⟩, .string ⟨#[103, 101, 116]⟩, .string ⟨#[101, 112, 111, 99, 104]⟩, .string ⟨#[106, 111, 105, 110]⟩, .string ⟨#[108, 101, 97, 118, 101]⟩, .string ⟨#[109, 97, 114, 107]⟩, .string ⟨#[114, 101, 97, 100]⟩, .string ⟨#[116, 105, 99, 107]⟩, .string ⟨#[116, 114, 105, 109]⟩, .string ⟨#[112, 97, 99, 107]⟩], .int .i64 op] w fun e w' => e = .returned (.bool (inB op 0 10)) /\ w' = w.alloc (.cells #[.string ⟨#[110, 111, 110, 101]⟩, .string ⟨#[112, 117, 116]⟩, .string ⟨#[103, 101, 116]⟩, .string ⟨#[101, 112, 111, 99, 104]⟩, .string ⟨#[106, 111, 105, 110]⟩, .string ⟨#[108, 101, 97, 118, 101]⟩, .string ⟨#[109, 97, 114, 107]⟩, .string ⟨#[114, 101, 97, 100]⟩, .string ⟨#[116, 105, 99, 107]⟩, .string ⟨#[116, 114, 105, 109]⟩, .string ⟨#[112, 97, 99, 107]⟩] 265) := by
  go_enter Tryz.func216, Tryz.ntmps216
  go_wp2_with (go_at_call 88; refine (within_any _ _ _ _).mono ?_; rintro e w' ⟨rfl, rfl⟩)
  go_ret
  exact ⟨rfl, rfl⟩
theorem without_out (op : Int) (h : inB op 0 10 = false) (w : World) :
    Calls Tryz.prog 214 #[.agg #[.string ⟨#[110, 111, 110, 101]⟩, .string ⟨#[112, 117, 116]⟩, .string ⟨#[103, 101, 116]⟩, .string ⟨#[101, 112, 111, 99, 104]⟩, .string ⟨#[106, 111, 105, 110]⟩, .string ⟨#[108, 101, 97, 118, 101]⟩, .string ⟨#[109, 97, 114, 107]⟩, .string ⟨#[114, 101, 97, 100]⟩, .string ⟨#[116, 105, 99, 107]⟩, .string ⟨#[116, 114, 105, 109]⟩, .string ⟨#[112, 97, 99, 107]⟩], .int .i64 op] w fun e w' => e = .returned (.agg #[.string ⟨#[110, 111, 110, 101]⟩, .string ⟨#[112, 117, 116]⟩, .string ⟨#[103, 101, 116]⟩, .string ⟨#[101, 112, 111, 99, 104]⟩, .string ⟨#[106, 111, 105, 110]⟩, .string ⟨#[108, 101, 97, 118, 101]⟩, .string ⟨#[109, 97, 114, 107]⟩, .string ⟨#[114, 101, 97, 100]⟩, .string ⟨#[116, 105, 99, 107]⟩, .string ⟨#[116, 114, 105, 109]⟩, .string ⟨#[112, 97, 99, 107]⟩]) /\ Below w.heap.size w w' := by
  go_enter Tryz.func214, Tryz.ntmps214
  go_wp2_with (go_at_call 216; refine (reach_any _ _).mono ?_; rintro e w1 ⟨rfl, rfl⟩)
  exact bodyPost_ret (v := .agg #[.string ⟨#[110, 111, 110, 101]⟩, .string ⟨#[112, 117, 116]⟩, .string ⟨#[103, 101, 116]⟩, .string ⟨#[101, 112, 111, 99, 104]⟩, .string ⟨#[106, 111, 105, 110]⟩, .string ⟨#[108, 101, 97, 118, 101]⟩, .string ⟨#[109, 97, 114, 107]⟩, .string ⟨#[114, 101, 97, 100]⟩, .string ⟨#[116, 105, 99, 107]⟩, .string ⟨#[116, 114, 105, 109]⟩, .string ⟨#[112, 97, 99, 107]⟩]) (by simp [results, Tryz.results214, go_sem]) rfl
    ⟨rfl, by repeat (first | exact Below.refl _ _ | (refine via (by assumption) (by first | omega | (simp; done) | (simp; omega)) ?_) | refine Below.drew ?_ | refine Below.setCell ?_ (by first | omega | (simp; done) | (simp; omega)) _ | refine Below.alloc ?_ (by first | omega | (simp; done) | (simp; omega)) _)⟩
theorem without_0 (w : World) :
    Calls Tryz.prog 214 #[.agg #[.string ⟨#[110, 111, 110, 101]⟩, .string ⟨#[112, 117, 116]⟩, .string ⟨#[103, 101, 116]⟩, .string ⟨#[101, 112, 111, 99, 104]⟩, .string ⟨#[106, 111, 105, 110]⟩, .string ⟨#[108, 101, 97, 118, 101]⟩, .string ⟨#[109, 97, 114, 107]⟩, .string ⟨#[114, 101, 97, 100]⟩, .string ⟨#[116, 105, 99, 107]⟩, .string ⟨#[116, 114, 105, 109]⟩, .string ⟨#[112, 97, 99, 107]⟩], .int .i64 0] w fun e w' => e = .returned (.agg #[.string ⟨#[110, 111, 110, 101]⟩, .string ⟨#[112, 117, 116]⟩, .string ⟨#[103, 101, 116]⟩, .string ⟨#[101, 112, 111, 99, 104]⟩, .string ⟨#[106, 111, 105, 110]⟩, .string ⟨#[108, 101, 97, 118, 101]⟩, .string ⟨#[109, 97, 114, 107]⟩, .string ⟨#[114, 101, 97, 100]⟩, .string ⟨#[116, 105, 99, 107]⟩, .string ⟨#[116, 114, 105, 109]⟩, .string ⟨#[112, 97, 99, 107]⟩]) /\ Below w.heap.size w w' := by
  have h : inB 0 0 10 = true := by decide
  go_enter Tryz.func214, Tryz.ntmps214
  go_wp2_with (go_at_call 216; refine (reach_any _ _).mono ?_; rintro e w1 ⟨rfl, rfl⟩)
  exact bodyPost_ret (v := .agg #[.string ⟨#[110, 111, 110, 101]⟩, .string ⟨#[112, 117, 116]⟩, .string ⟨#[103, 101, 116]⟩, .string ⟨#[101, 112, 111, 99, 104]⟩, .string ⟨#[106, 111, 105, 110]⟩, .string ⟨#[108, 101, 97, 118, 101]⟩, .string ⟨#[109, 97, 114, 107]⟩, .string ⟨#[114, 101, 97, 100]⟩, .string ⟨#[116, 105, 99, 107]⟩, .string ⟨#[116, 114, 105, 109]⟩, .string ⟨#[112, 97, 99, 107]⟩]) (by simp [results, Tryz.results214, go_sem]) rfl
    ⟨rfl, by repeat (first | exact Below.refl _ _ | (refine via (by assumption) (by first | omega | (simp; done) | (simp; omega)) ?_) | refine Below.drew ?_ | refine Below.setCell ?_ (by first | omega | (simp; done) | (simp; omega)) _ | refine Below.alloc ?_ (by first | omega | (simp; done) | (simp; omega)) _)⟩
theorem without_1 (w : World) :
    Calls Tryz.prog 214 #[.agg #[.string ⟨#[110, 111, 110, 101]⟩, .string ⟨#[112, 117, 116]⟩, .string ⟨#[103, 101, 116]⟩, .string ⟨#[101, 112, 111, 99, 104]⟩, .string ⟨#[106, 111, 105, 110]⟩, .string ⟨#[108, 101, 97, 118, 101]⟩, .string ⟨#[109, 97, 114, 107]⟩, .string ⟨#[114, 101, 97, 100]⟩, .string ⟨#[116, 105, 99, 107]⟩, .string ⟨#[116, 114, 105, 109]⟩, .string ⟨#[112, 97, 99, 107]⟩], .int .i64 1] w fun e w' => e = .returned (.agg #[.string ⟨#[110, 111, 110, 101]⟩, .string ⟨#[110, 111, 110, 101]⟩, .string ⟨#[103, 101, 116]⟩, .string ⟨#[101, 112, 111, 99, 104]⟩, .string ⟨#[106, 111, 105, 110]⟩, .string ⟨#[108, 101, 97, 118, 101]⟩, .string ⟨#[109, 97, 114, 107]⟩, .string ⟨#[114, 101, 97, 100]⟩, .string ⟨#[116, 105, 99, 107]⟩, .string ⟨#[116, 114, 105, 109]⟩, .string ⟨#[112, 97, 99, 107]⟩]) /\ Below w.heap.size w w' := by
  have h : inB 1 0 10 = true := by decide
  go_enter Tryz.func214, Tryz.ntmps214
  go_wp2_with (go_at_call 216; refine (reach_any _ _).mono ?_; rintro e w1 ⟨rfl, rfl⟩)
  exact bodyPost_ret (v := .agg #[.string ⟨#[110, 111, 110, 101]⟩, .string ⟨#[110, 111, 110, 101]⟩, .string ⟨#[103, 101, 116]⟩, .string ⟨#[101, 112, 111, 99, 104]⟩, .string ⟨#[106, 111, 105, 110]⟩, .string ⟨#[108, 101, 97, 118, 101]⟩, .string ⟨#[109, 97, 114, 107]⟩, .string ⟨#[114, 101, 97, 100]⟩, .string ⟨#[116, 105, 99, 107]⟩, .string ⟨#[116, 114, 105, 109]⟩, .string ⟨#[112, 97, 99, 107]⟩]) (by simp [results, Tryz.results214, go_sem]) rfl
    ⟨rfl, by repeat (first | exact Below.refl _ _ | (refine via (by assumption) (by first | omega | (simp; done) | (simp; omega)) ?_) | refine Below.drew ?_ | refine Below.setCell ?_ (by first | omega | (simp; done) | (simp; omega)) _ | refine Below.alloc ?_ (by first | omega | (simp; done) | (simp; omega)) _)⟩
theorem without_2 (w : World) :
    Calls Tryz.prog 214 #[.agg #[.string ⟨#[110, 111, 110, 101]⟩, .string ⟨#[112, 117, 116]⟩, .string ⟨#[103, 101, 116]⟩, .string ⟨#[101, 112, 111, 99, 104]⟩, .string ⟨#[106, 111, 105, 110]⟩, .string ⟨#[108, 101, 97, 118, 101]⟩, .string ⟨#[109, 97, 114, 107]⟩, .string ⟨#[114, 101, 97, 100]⟩, .string ⟨#[116, 105, 99, 107]⟩, .string ⟨#[116, 114, 105, 109]⟩, .string ⟨#[112, 97, 99, 107]⟩], .int .i64 2] w fun e w' => e = .returned (.agg #[.string ⟨#[110, 111, 110, 101]⟩, .string ⟨#[112, 117, 116]⟩, .string ⟨#[110, 111, 110, 101]⟩, .string ⟨#[101, 112, 111, 99, 104]⟩, .string ⟨#[106, 111, 105, 110]⟩, .string ⟨#[108, 101, 97, 118, 101]⟩, .string ⟨#[109, 97, 114, 107]⟩, .string ⟨#[114, 101, 97, 100]⟩, .string ⟨#[116, 105, 99, 107]⟩, .string ⟨#[116, 114, 105, 109]⟩, .string ⟨#[112, 97, 99, 107]⟩]) /\ Below w.heap.size w w' := by
  have h : inB 2 0 10 = true := by decide
  go_enter Tryz.func214, Tryz.ntmps214
  go_wp2_with (go_at_call 216; refine (reach_any _ _).mono ?_; rintro e w1 ⟨rfl, rfl⟩)
  exact bodyPost_ret (v := .agg #[.string ⟨#[110, 111, 110, 101]⟩, .string ⟨#[112, 117, 116]⟩, .string ⟨#[110, 111, 110, 101]⟩, .string ⟨#[101, 112, 111, 99, 104]⟩, .string ⟨#[106, 111, 105, 110]⟩, .string ⟨#[108, 101, 97, 118, 101]⟩, .string ⟨#[109, 97, 114, 107]⟩, .string ⟨#[114, 101, 97, 100]⟩, .string ⟨#[116, 105, 99, 107]⟩, .string ⟨#[116, 114, 105, 109]⟩, .string ⟨#[112, 97, 99, 107]⟩]) (by simp [results, Tryz.results214, go_sem]) rfl
    ⟨rfl, by repeat (first | exact Below.refl _ _ | (refine via (by assumption) (by first | omega | (simp; done) | (simp; omega)) ?_) | refine Below.drew ?_ | refine Below.setCell ?_ (by first | omega | (simp; done) | (simp; omega)) _ | refine Below.alloc ?_ (by first | omega | (simp; done) | (simp; omega)) _)⟩
theorem without_3 (w : World) :
    Calls Tryz.prog 214 #[.agg #[.string ⟨#[110, 111, 110, 101]⟩, .string ⟨#[112, 117, 116]⟩, .string ⟨#[103, 101, 116]⟩, .string ⟨#[101, 112, 111, 99, 104]⟩, .string ⟨#[106, 111, 105, 110]⟩, .string ⟨#[108, 101, 97, 118, 101]⟩, .string ⟨#[109, 97, 114, 107]⟩, .string ⟨#[114, 101, 97, 100]⟩, .string ⟨#[116, 105, 99, 107]⟩, .string ⟨#[116, 114, 105, 109]⟩, .string ⟨#[112, 97, 99, 107]⟩], .int .i64 3] w fun e w' => e = .returned (.agg #[.string ⟨#[110, 111, 110, 101]⟩, .string ⟨#[112, 117, 116]⟩, .string ⟨#[103, 101, 116]⟩, .string ⟨#[110, 111, 110, 101]⟩, .string ⟨#[106, 111, 105, 110]⟩, .string ⟨#[108, 101, 97, 118, 101]⟩, .string ⟨#[109, 97, 114, 107]⟩, .string ⟨#[114, 101, 97, 100]⟩, .string ⟨#[116, 105, 99, 107]⟩, .string ⟨#[116, 114, 105, 109]⟩, .string ⟨#[112, 97, 99, 107]⟩]) /\ Below w.heap.size w w' := by
  have h : inB 3 0 10 = true := by decide
  go_enter Tryz.func214, Tryz.ntmps214
  go_wp2_with (go_at_call 216; refine (reach_any _ _).mono ?_; rintro e w1 ⟨rfl, rfl⟩)
  exact bodyPost_ret (v := .agg #[.string ⟨#[110, 111, 110, 101]⟩, .string ⟨#[112, 117, 116]⟩, .string ⟨#[103, 101, 116]⟩, .string ⟨#[110, 111, 110, 101]⟩, .string ⟨#[106, 111, 105, 110]⟩, .string ⟨#[108, 101, 97, 118, 101]⟩, .string ⟨#[109, 97, 114, 107]⟩, .string ⟨#[114, 101, 97, 100]⟩, .string ⟨#[116, 105, 99, 107]⟩, .string ⟨#[116, 114, 105, 109]⟩, .string ⟨#[112, 97, 99, 107]⟩]) (by simp [results, Tryz.results214, go_sem]) rfl
    ⟨rfl, by repeat (first | exact Below.refl _ _ | (refine via (by assumption) (by first | omega | (simp; done) | (simp; omega)) ?_) | refine Below.drew ?_ | refine Below.setCell ?_ (by first | omega | (simp; done) | (simp; omega)) _ | refine Below.alloc ?_ (by first | omega | (simp; done) | (simp; omega)) _)⟩
theorem without_4 (w : World) :
    Calls Tryz.prog 214 #[.agg #[.string ⟨#[110, 111, 110, 101]⟩, .string ⟨#[112, 117, 116]⟩, .string ⟨#[103, 101, 116]⟩, .string ⟨#[101, 112, 111, 99, 104]⟩, .string ⟨#[106, 111, 105, 110]⟩, .string ⟨#[108, 101, 97, 118, 101]⟩, .string ⟨#[109, 97, 114, 107]⟩, .string ⟨#[114, 101, 97, 100]⟩, .string ⟨#[116, 105, 99, 107]⟩, .string ⟨#[116, 114, 105, 109]⟩, .string ⟨#[112, 97, 99, 107]⟩], .int .i64 4] w fun e w' => e = .returned (.agg #[.string ⟨#[110, 111, 110, 101]⟩, .string ⟨#[112, 117, 116]⟩, .string ⟨#[103, 101, 116]⟩, .string ⟨#[101, 112, 111, 99, 104]⟩, .string ⟨#[110, 111, 110, 101]⟩, .string ⟨#[108, 101, 97, 118, 101]⟩, .string ⟨#[109, 97, 114, 107]⟩, .string ⟨#[114, 101, 97, 100]⟩, .string ⟨#[116, 105, 99, 107]⟩, .string ⟨#[116, 114, 105, 109]⟩, .string ⟨#[112, 97, 99, 107]⟩]) /\ Below w.heap.size w w' := by
  have h : inB 4 0 10 = true := by decide
  go_enter Tryz.func214, Tryz.ntmps214
  go_wp2_with (go_at_call 216; refine (reach_any _ _).mono ?_; rintro e w1 ⟨rfl, rfl⟩)
  exact bodyPost_ret (v := .agg #[.string ⟨#[110, 111, 110, 101]⟩, .string ⟨#[112, 117, 116]⟩, .string ⟨#[103, 101, 116]⟩, .string ⟨#[101, 112, 111, 99, 104]⟩, .string ⟨#[110, 111, 110, 101]⟩, .string ⟨#[108, 101, 97, 118, 101]⟩, .string ⟨#[109, 97, 114, 107]⟩, .string ⟨#[114, 101, 97, 100]⟩, .string ⟨#[116, 105, 99, 107]⟩, .string ⟨#[116, 114, 105, 109]⟩, .string ⟨#[112, 97, 99, 107]⟩]) (by simp [results, Tryz.results214, go_sem]) rfl
    ⟨rfl, by repeat (first | exact Below.refl _ _ | (refine via (by assumption) (by first | omega | (simp; done) | (simp; omega)) ?_) | refine Below.drew ?_ | refine Below.setCell ?_ (by first | omega | (simp; done) | (simp; omega)) _ | refine Below.alloc ?_ (by first | omega | (simp; done) | (simp; omega)) _)⟩
theorem without_5 (w : World) :
    Calls Tryz.prog 214 #[.agg #[.string ⟨#[110, 111, 110, 101]⟩, .string ⟨#[112, 117, 116]⟩, .string ⟨#[103, 101, 116]⟩, .string ⟨#[101, 112, 111, 99, 104]⟩, .string ⟨#[106, 111, 105, 110]⟩, .string ⟨#[108, 101, 97, 118, 101]⟩, .string ⟨#[109, 97, 114, 107]⟩, .string ⟨#[114, 101, 97, 100]⟩, .string ⟨#[116, 105, 99, 107]⟩, .string ⟨#[116, 114, 105, 109]⟩, .string ⟨#[112, 97, 99, 107]⟩], .int .i64 5] w fun e w' => e = .returned (.agg #[.string ⟨#[110, 111, 110, 101]⟩, .string ⟨#[112, 117, 116]⟩, .string ⟨#[103, 101, 116]⟩, .string ⟨#[101, 112, 111, 99, 104]⟩, .string ⟨#[106, 111, 105, 110]⟩, .string ⟨#[110, 111, 110, 101]⟩, .string ⟨#[109, 97, 114, 107]⟩, .string ⟨#[114, 101, 97, 100]⟩, .string ⟨#[116, 105, 99, 107]⟩, .string ⟨#[116, 114, 105, 109]⟩, .string ⟨#[112, 97, 99, 107]⟩]) /\ Below w.heap.size w w' := by
  have h : inB 5 0 10 = true := by decide
  go_enter Tryz.func214, Tryz.ntmps214
  go_wp2_with (go_at_call 216; refine (reach_any _ _).mono ?_; rintro e w1 ⟨rfl, rfl⟩)
  exact bodyPost_ret (v := .agg #[.string ⟨#[110, 111, 110, 101]⟩, .string ⟨#[112, 117, 116]⟩, .string ⟨#[103, 101, 116]⟩, .string ⟨#[101, 112, 111, 99, 104]⟩, .string ⟨#[106, 111, 105, 110]⟩, .string ⟨#[110, 111, 110, 101]⟩, .string ⟨#[109, 97, 114, 107]⟩, .string ⟨#[114, 101, 97, 100]⟩, .string ⟨#[116, 105, 99, 107]⟩, .string ⟨#[116, 114, 105, 109]⟩, .string ⟨#[112, 97, 99, 107]⟩]) (by simp [results, Tryz.results214, go_sem]) rfl
    ⟨rfl, by repeat (first | exact Below.refl _ _ | (refine via (by assumption) (by first | omega | (simp; done) | (simp; omega)) ?_) | refine Below.drew ?_ | refine Below.setCell ?_ (by first | omega | (simp; done) | (simp; omega)) _ | refine Below.alloc ?_ (by first | omega | (simp; done) | (simp; omega)) _)⟩
theorem without_6 (w : World) :
    Calls Tryz.prog 214 #[.agg #[.string ⟨#[110, 111, 110, 101]⟩, .string ⟨#[112, 117, 116]⟩, .string ⟨#[103, 101, 116]⟩, .string ⟨#[101, 112, 111, 99, 104]⟩, .string ⟨#[106, 111, 105, 110]⟩, .string ⟨#[108, 101, 97, 118, 101]⟩, .string ⟨#[109, 97, 114, 107]⟩, .string ⟨#[114, 101, 97, 100]⟩, .string ⟨#[116, 105, 99, 107]⟩, .string ⟨#[116, 114, 105, 109]⟩, .string ⟨#[112, 97, 99, 107]⟩], .int .i64 6] w fun e w' => e = .returned (.agg #[.string ⟨#[110, 111, 110, 101]⟩, .string ⟨#[112, 117, 116]⟩, .string ⟨#[103, 101, 116]⟩, .string ⟨#[101, 112, 111, 99, 104]⟩, .string ⟨#[106, 111, 105, 110]⟩, .string ⟨#[108, 101, 97, 118, 101]⟩, .string ⟨#[110, 111, 110, 101]⟩, .string ⟨#[114, 101, 97, 100]⟩, .string ⟨#[116, 105, 99, 107]⟩, .string ⟨#[116, 114, 105, 109]⟩, .string ⟨#[112, 97, 99, 107]⟩]) /\ Below w.heap.size w w' := by
  have h : inB 6 0 10 = true := by decide
  go_enter Tryz.func214, Tryz.ntmps214
  go_wp2_with (go_at_call 216; refine (reach_any _ _).mono ?_; rintro e w1 ⟨rfl, rfl⟩)
  exact bodyPost_ret (v := .agg #[.string ⟨#[110, 111, 110, 101]⟩, .string ⟨#[112, 117, 116]⟩, .string ⟨#[103, 101, 116]⟩, .string ⟨#[101, 112, 111, 99, 104]⟩, .string ⟨#[106, 111, 105, 110]⟩, .string ⟨#[108, 101, 97, 118, 101]⟩, .string ⟨#[110, 111, 110, 101]⟩, .string ⟨#[114, 101, 97, 100]⟩, .string ⟨#[116, 105, 99, 107]⟩, .string ⟨#[116, 114, 105, 109]⟩, .string ⟨#[112, 97, 99, 107]⟩]) (by simp [results, Tryz.results214, go_sem]) rfl
    ⟨rfl, by repeat (first | exact Below.refl _ _ | (refine via (by assumption) (by first | omega | (simp; done) | (simp; omega)) ?_) | refine Below.drew ?_ | refine Below.setCell ?_ (by first | omega | (simp; done) | (simp; omega)) _ | refine Below.alloc ?_ (by first | omega | (simp; done) | (simp; omega)) _)⟩
theorem without_7 (w : World) :
    Calls Tryz.prog 214 #[.agg #[.string ⟨#[110, 111, 110, 101]⟩, .string ⟨#[112, 117, 116]⟩, .string ⟨#[103, 101, 116]⟩, .string ⟨#[101, 112, 111, 99, 104]⟩, .string ⟨#[106, 111, 105, 110]⟩, .string ⟨#[108, 101, 97, 118, 101]⟩, .string ⟨#[109, 97, 114, 107]⟩, .string ⟨#[114, 101, 97, 100]⟩, .string ⟨#[116, 105, 99, 107]⟩, .string ⟨#[116, 114, 105, 109]⟩, .string ⟨#[112, 97, 99, 107]⟩], .int .i64 7] w fun e w' => e = .returned (.agg #[.string ⟨#[110, 111, 110, 101]⟩, .string ⟨#[112, 117, 116]⟩, .string ⟨#[103, 101, 116]⟩, .string ⟨#[101, 112, 111, 99, 104]⟩, .string ⟨#[106, 111, 105, 110]⟩, .string ⟨#[108, 101, 97, 118, 101]⟩, .string ⟨#[109, 97, 114, 107]⟩, .string ⟨#[110, 111, 110, 101]⟩, .string ⟨#[116, 105, 99, 107]⟩, .string ⟨#[116, 114, 105, 109]⟩, .string ⟨#[112, 97, 99, 107]⟩]) /\ Below w.heap.size w w' := by
  have h : inB 7 0 10 = true := by decide
  go_enter Tryz.func214, Tryz.ntmps214
  go_wp2_with (go_at_call 216; refine (reach_any _ _).mono ?_; rintro e w1 ⟨rfl, rfl⟩)
  exact bodyPost_ret (v := .agg #[.string ⟨#[110, 111, 110, 101]⟩, .string ⟨#[112, 117, 116]⟩, .string ⟨#[103, 101, 116]⟩, .string ⟨#[101, 112, 111, 99, 104]⟩, .string ⟨#[106, 111, 105, 110]⟩, .string ⟨#[108, 101, 97, 118, 101]⟩, .string ⟨#[109, 97, 114, 107]⟩, .string ⟨#[110, 111, 110, 101]⟩, .string ⟨#[116, 105, 99, 107]⟩, .string ⟨#[116, 114, 105, 109]⟩, .string ⟨#[112, 97, 99, 107]⟩]) (by simp [results, Tryz.results214, go_sem]) rfl
    ⟨rfl, by repeat (first | exact Below.refl _ _ | (refine via (by assumption) (by first | omega | (simp; done) | (simp; omega)) ?_) | refine Below.drew ?_ | refine Below.setCell ?_ (by first | omega | (simp; done) | (simp; omega)) _ | refine Below.alloc ?_ (by first | omega | (simp; done) | (simp; omega)) _)⟩
theorem without_8 (w : World) :
    Calls Tryz.prog 214 #[.agg #[.string ⟨#[110, 111, 110, 101]⟩, .string ⟨#[112, 117, 116]⟩, .string ⟨#[103, 101, 116]⟩, .string ⟨#[101, 112, 111, 99, 104]⟩, .string ⟨#[106, 111, 105, 110]⟩, .string ⟨#[108, 101, 97, 118, 101]⟩, .string ⟨#[109, 97, 114, 107]⟩, .string ⟨#[114, 101, 97, 100]⟩, .string ⟨#[116, 105, 99, 107]⟩, .string ⟨#[116, 114, 105, 109]⟩, .string ⟨#[112, 97, 99, 107]⟩], .int .i64 8] w fun e w' => e = .returned (.agg #[.string ⟨#[110, 111, 110, 101]⟩, .string ⟨#[112, 117, 116]⟩, .string ⟨#[103, 101, 116]⟩, .string ⟨#[101, 112, 111, 99, 104]⟩, .string ⟨#[106, 111, 105, 110]⟩, .string ⟨#[108, 101, 97, 118, 101]⟩, .string ⟨#[109, 97, 114, 107]⟩, .string ⟨#[114, 101, 97, 100]⟩, .string ⟨#[110, 111, 110, 101]⟩, .string ⟨#[116, 114, 105, 109]⟩, .string ⟨#[112, 97, 99, 107]⟩]) /\ Below w.heap.size w w' := by
  have h : inB 8 0 10 = true := by decide
  go_enter Tryz.func214, Tryz.ntmps214
  go_wp2_with (go_at_call 216; refine (reach_any _ _).mono ?_; rintro e w1 ⟨rfl, rfl⟩)
  exact bodyPost_ret (v := .agg #[.string ⟨#[110, 111, 110, 101]⟩, .string ⟨#[112, 117, 116]⟩, .string ⟨#[103, 101, 116]⟩, .string ⟨#[101, 112, 111, 99, 104]⟩, .string ⟨#[106, 111, 105, 110]⟩, .string ⟨#[108, 101, 97, 118, 101]⟩, .string ⟨#[109, 97, 114, 107]⟩, .string ⟨#[114, 101, 97, 100]⟩, .string ⟨#[110, 111, 110, 101]⟩, .string ⟨#[116, 114, 105, 109]⟩, .string ⟨#[112, 97, 99, 107]⟩]) (by simp [results, Tryz.results214, go_sem]) rfl
    ⟨rfl, by repeat (first | exact Below.refl _ _ | (refine via (by assumption) (by first | omega | (simp; done) | (simp; omega)) ?_) | refine Below.drew ?_ | refine Below.setCell ?_ (by first | omega | (simp; done) | (simp; omega)) _ | refine Below.alloc ?_ (by first | omega | (simp; done) | (simp; omega)) _)⟩
theorem without_9 (w : World) :
    Calls Tryz.prog 214 #[.agg #[.string ⟨#[110, 111, 110, 101]⟩, .string ⟨#[112, 117, 116]⟩, .string ⟨#[103, 101, 116]⟩, .string ⟨#[101, 112, 111, 99, 104]⟩, .string ⟨#[106, 111, 105, 110]⟩, .string ⟨#[108, 101, 97, 118, 101]⟩, .string ⟨#[109, 97, 114, 107]⟩, .string ⟨#[114, 101, 97, 100]⟩, .string ⟨#[116, 105, 99, 107]⟩, .string ⟨#[116, 114, 105, 109]⟩, .string ⟨#[112, 97, 99, 107]⟩], .int .i64 9] w fun e w' => e = .returned (.agg #[.string ⟨#[110, 111, 110, 101]⟩, .string ⟨#[112, 117, 116]⟩, .string ⟨#[103, 101, 116]⟩, .string ⟨#[101, 112, 111, 99, 104]⟩, .string ⟨#[106, 111, 105, 110]⟩, .string ⟨#[108, 101, 97, 118, 101]⟩, .string ⟨#[109, 97, 114, 107]⟩, .string ⟨#[114, 101, 97, 100]⟩, .string ⟨#[116, 105, 99, 107]⟩, .string ⟨#[110, 111, 110, 101]⟩, .string ⟨#[112, 97, 99, 107]⟩]) /\ Below w.heap.size w w' := by
  have h : inB 9 0 10 = true := by decide
  go_enter Tryz.func214, Tryz.ntmps214
  go_wp2_with (go_at_call 216; refine (reach_any _ _).mono ?_; rintro e w1 ⟨rfl, rfl⟩)
  exact bodyPost_ret (v := .agg #[.string ⟨#[110, 111, 110, 101]⟩, .string ⟨#[112, 117, 116]⟩, .string ⟨#[103, 101, 116]⟩, .string ⟨#[101, 112, 111, 99, 104]⟩, .string ⟨#[106, 111, 105, 110]⟩, .string ⟨#[108, 101, 97, 118, 101]⟩, .string ⟨#[109, 97, 114, 107]⟩, .string ⟨#[114, 101, 97, 100]⟩, .string ⟨#[116, 105, 99, 107]⟩, .string ⟨#[110, 111, 110, 101]⟩, .string ⟨#[112, 97, 99, 107]⟩]) (by simp [results, Tryz.results214, go_sem]) rfl
    ⟨rfl, by repeat (first | exact Below.refl _ _ | (refine via (by assumption) (by first | omega | (simp; done) | (simp; omega)) ?_) | refine Below.drew ?_ | refine Below.setCell ?_ (by first | omega | (simp; done) | (simp; omega)) _ | refine Below.alloc ?_ (by first | omega | (simp; done) | (simp; omega)) _)⟩
theorem without_10 (w : World) :
    Calls Tryz.prog 214 #[.agg #[.string ⟨#[110, 111, 110, 101]⟩, .string ⟨#[112, 117, 116]⟩, .string ⟨#[103, 101, 116]⟩, .string ⟨#[101, 112, 111, 99, 104]⟩, .string ⟨#[106, 111, 105, 110]⟩, .string ⟨#[108, 101, 97, 118, 101]⟩, .string ⟨#[109, 97, 114, 107]⟩, .string ⟨#[114, 101, 97, 100]⟩, .string ⟨#[116, 105, 99, 107]⟩, .string ⟨#[116, 114, 105, 109]⟩, .string ⟨#[112, 97, 99, 107]⟩], .int .i64 10] w fun e w' => e = .returned (.agg #[.string ⟨#[110, 111, 110, 101]⟩, .string ⟨#[112, 117, 116]⟩, .string ⟨#[103, 101, 116]⟩, .string ⟨#[101, 112, 111, 99, 104]⟩, .string ⟨#[106, 111, 105, 110]⟩, .string ⟨#[108, 101, 97, 118, 101]⟩, .string ⟨#[109, 97, 114, 107]⟩, .string ⟨#[114, 101, 97, 100]⟩, .string ⟨#[116, 105, 99, 107]⟩, .string ⟨#[116, 114, 105, 109]⟩, .string ⟨#[110, 111, 110, 101]⟩]) /\ Below w.heap.size w w' := by
  have h : inB 10 0 10 = true := by decide
  go_enter Tryz.func214, Tryz.ntmps214
  go_wp2_with (go_at_call 216; refine (reach_any _ _).mono ?_; rintro e w1 ⟨rfl, rfl⟩)
  exact bodyPost_ret (v := .agg #[.string ⟨#[110, 111, 110, 101]⟩, .string ⟨#[112, 117, 116]⟩, .string ⟨#[103, 101, 116]⟩, .string ⟨#[101, 112, 111, 99, 104]⟩, .string ⟨#[106, 111, 105, 110]⟩, .string ⟨#[108, 101, 97, 118, 101]⟩, .string ⟨#[109, 97, 114, 107]⟩, .string ⟨#[114, 101, 97, 100]⟩, .string ⟨#[116, 105, 99, 107]⟩, .string ⟨#[116, 114, 105, 109]⟩, .string ⟨#[110, 111, 110, 101]⟩]) (by simp [results, Tryz.results214, go_sem]) rfl
    ⟨rfl, by repeat (first | exact Below.refl _ _ | (refine via (by assumption) (by first | omega | (simp; done) | (simp; omega)) ?_) | refine Below.drew ?_ | refine Below.setCell ?_ (by first | omega | (simp; done) | (simp; omega)) _ | refine Below.alloc ?_ (by first | omega | (simp; done) | (simp; omega)) _)⟩
end Go.Proofs.YtanihpmgoeadkaaGreat.CmdOk

/-
  isOp at this seat: an Op is right when it has a name. No condition.
-/
namespace Go.Proofs.YtanihpmgoeadkaaGreat.CmdOk
open Go.ChangeShapes Go.WideShapes Go.ChangeAt Go.RowKit Go.Joins Base
set_option linter.unusedVariables false
theorem op_ways (op : Int) : inB op 0 10 = false ∨ op = 0 ∨ op = 1 ∨ op = 2 ∨ op = 3 ∨ op = 4 ∨ op = 5 ∨ op = 6 ∨ op = 7 ∨ op = 8 ∨ op = 9 ∨ op = 10 := by
  simp only [inB, decide_eq_false_iff_not]
  omega
theorem same_names (w : World) : (Op.equalIn 10000 265 (.agg #[.string ⟨#[110, 111, 110, 101]⟩, .string ⟨#[112, 117, 116]⟩, .string ⟨#[103, 101, 116]⟩, .string ⟨#[101, 112, 111, 99, 104]⟩, .string ⟨#[106, 111, 105, 110]⟩, .string ⟨#[108, 101, 97, 118, 101]⟩, .string ⟨#[109, 97, 114, 107]⟩, .string ⟨#[114, 101, 97, 100]⟩, .string ⟨#[116, 105, 99, 107]⟩, .string ⟨#[116, 114, 105, 109]⟩, .string ⟨#[112, 97, 99, 107]⟩]) (.agg #[.string ⟨#[110, 111, 110, 101]⟩, .string ⟨#[112, 117, 116]⟩, .string ⟨#[103, 101, 116]⟩, .string ⟨#[101, 112, 111, 99, 104]⟩, .string ⟨#[106, 111, 105, 110]⟩, .string ⟨#[108, 101, 97, 118, 101]⟩, .string ⟨#[109, 97, 114, 107]⟩, .string ⟨#[114, 101, 97, 100]⟩, .string ⟨#[116, 105, 99, 107]⟩, .string ⟨#[116, 114, 105, 109]⟩, .string ⟨#[112, 97, 99, 107]⟩])).run Tryz.prog w = .ok true w := by kernel_rfl
theorem other_names1 (w : World) : (Op.equalIn 10000 265 (.agg #[.string ⟨#[110, 111, 110, 101]⟩, .string ⟨#[110, 111, 110, 101]⟩, .string ⟨#[103, 101, 116]⟩, .string ⟨#[101, 112, 111, 99, 104]⟩, .string ⟨#[106, 111, 105, 110]⟩, .string ⟨#[108, 101, 97, 118, 101]⟩, .string ⟨#[109, 97, 114, 107]⟩, .string ⟨#[114, 101, 97, 100]⟩, .string ⟨#[116, 105, 99, 107]⟩, .string ⟨#[116, 114, 105, 109]⟩, .string ⟨#[112, 97, 99, 107]⟩]) (.agg #[.string ⟨#[110, 111, 110, 101]⟩, .string ⟨#[112, 117, 116]⟩, .string ⟨#[103, 101, 116]⟩, .string ⟨#[101, 112, 111, 99, 104]⟩, .string ⟨#[106, 111, 105, 110]⟩, .string ⟨#[108, 101, 97, 118, 101]⟩, .string ⟨#[109, 97, 114, 107]⟩, .string ⟨#[114, 101, 97, 100]⟩, .string ⟨#[116, 105, 99, 107]⟩, .string ⟨#[116, 114, 105, 109]⟩, .string ⟨#[112, 97, 99, 107]⟩])).run Tryz.prog w = .ok false w := by kernel_rfl
theorem other_names2 (w : World) : (Op.equalIn 10000 265 (.agg #[.string ⟨#[110, 111, 110, 101]⟩, .string ⟨#[112, 117, 116]⟩, .string ⟨#[110, 111, 110, 101]⟩, .string ⟨#[101, 112, 111, 99, 104]⟩, .string ⟨#[106, 111, 105, 110]⟩, .string ⟨#[108, 101, 97, 118, 101]⟩, .string ⟨#[109, 97, 114, 107]⟩, .string ⟨#[114, 101, 97, 100]⟩, .string ⟨#[116, 105, 99, 107]⟩, .string ⟨#[116, 114, 105, 109]⟩, .string ⟨#[112, 97, 99, 107]⟩]) (.agg #[.string ⟨#[110, 111, 110, 101]⟩, .string ⟨#[112, 117, 116]⟩, .string ⟨#[103, 101, 116]⟩, .string ⟨#[101, 112, 111, 99, 104]⟩, .string ⟨#[106, 111, 105, 110]⟩, .string ⟨#[108, 101, 97, 118, 101]⟩, .string ⟨#[109, 97, 114, 107]⟩, .string ⟨#[114, 101, 97, 100]⟩, .string ⟨#[116, 105, 99, 107]⟩, .string ⟨#[116, 114, 105, 109]⟩, .string ⟨#[112, 97, 99, 107]⟩])).run Tryz.prog w = .ok false w := by kernel_rfl
theorem other_names3 (w : World) : (Op.equalIn 10000 265 (.agg #[.string ⟨#[110, 111, 110, 101]⟩, .string ⟨#[112, 117, 116]⟩, .string ⟨#[103, 101, 116]⟩, .string ⟨#[110, 111, 110, 101]⟩, .string ⟨#[106, 111, 105, 110]⟩, .string ⟨#[108, 101, 97, 118, 101]⟩, .string ⟨#[109, 97, 114, 107]⟩, .string ⟨#[114, 101, 97, 100]⟩, .string ⟨#[116, 105, 99, 107]⟩, .string ⟨#[116, 114, 105, 109]⟩, .string ⟨#[112, 97, 99, 107]⟩]) (.agg #[.string ⟨#[110, 111, 110, 101]⟩, .string ⟨#[112, 117, 116]⟩, .string ⟨#[103, 101, 116]⟩, .string ⟨#[101, 112, 111, 99, 104]⟩, .string ⟨#[106, 111, 105, 110]⟩, .string ⟨#[108, 101, 97, 118, 101]⟩, .string ⟨#[109, 97, 114, 107]⟩, .string ⟨#[114, 101, 97, 100]⟩, .string ⟨#[116, 105, 99, 107]⟩, .string ⟨#[116, 114, 105, 109]⟩, .string ⟨#[112, 97, 99, 107]⟩])).run Tryz.prog w = .ok false w := by kernel_rfl
theorem other_names4 (w : World) : (Op.equalIn 10000 265 (.agg #[.string ⟨#[110, 111, 110, 101]⟩, .string ⟨#[112, 117, 116]⟩, .string ⟨#[103, 101, 116]⟩, .string ⟨#[101, 112, 111, 99, 104]⟩, .string ⟨#[110, 111, 110, 101]⟩, .string ⟨#[108, 101, 97, 118, 101]⟩, .string ⟨#[109, 97, 114, 107]⟩, .string ⟨#[114, 101, 97, 100]⟩, .string ⟨#[116, 105, 99, 107]⟩, .string ⟨#[116, 114, 105, 109]⟩, .string ⟨#[112, 97, 99, 107]⟩]) (.agg #[.string ⟨#[110, 111, 110, 101]⟩, .string ⟨#[112, 117, 116]⟩, .string ⟨#[103, 101, 116]⟩, .string ⟨#[101, 112, 111, 99, 104]⟩, .string ⟨#[106, 111, 105, 110]⟩, .string ⟨#[108, 101, 97, 118, 101]⟩, .string ⟨#[109, 97, 114, 107]⟩, .string ⟨#[114, 101, 97, 100]⟩, .string ⟨#[116, 105, 99, 107]⟩, .string ⟨#[116, 114, 105, 109]⟩, .string ⟨#[112, 97, 99, 107]⟩])).run Tryz.prog w = .ok false w := by kernel_rfl
theorem other_names5 (w : World) : (Op.equalIn 10000 265 (.agg #[.string ⟨#[110, 111, 110, 101]⟩, .string ⟨#[112, 117, 116]⟩, .string ⟨#[103, 101, 116]⟩, .string ⟨#[101, 112, 111, 99, 104]⟩, .string ⟨#[106, 111, 105, 110]⟩, .string ⟨#[110, 111, 110, 101]⟩, .string ⟨#[109, 97, 114, 107]⟩, .string ⟨#[114, 101, 97, 100]⟩, .string ⟨#[116, 105, 99, 107]⟩, .string ⟨#[116, 114, 105, 109]⟩, .string ⟨#[112, 97, 99, 107]⟩]) (.agg #[.string ⟨#[110, 111, 110, 101]⟩, .string ⟨#[112, 117, 116]⟩, .string ⟨#[103, 101, 116]⟩, .string ⟨#[101, 112, 111, 99, 104]⟩, .string ⟨#[106, 111, 105, 110]⟩, .string ⟨#[108, 101, 97, 118, 101]⟩, .string ⟨#[109, 97, 114, 107]⟩, .string ⟨#[114, 101, 97, 100]⟩, .string ⟨#[116, 105, 99, 107]⟩, .string ⟨#[116, 114, 105, 109]⟩, .string ⟨#[112, 97, 99, 107]⟩])).run Tryz.prog w = .ok false w := by kernel_rfl
theorem other_names6 (w : World) : (Op.equalIn 10000 265 (.agg #[.string ⟨#[110, 111, 110, 101]⟩, .string ⟨#[112, 117, 116]⟩, .string ⟨#[103, 101, 116]⟩, .string ⟨#[101, 112, 111, 99, 104]⟩, .string ⟨#[106, 111, 105, 110]⟩, .string ⟨#[108, 101, 97, 118, 101]⟩, .string ⟨#[110, 111, 110, 101]⟩, .string ⟨#[114, 101, 97, 100]⟩, .string ⟨#[116, 105, 99, 107]⟩, .string ⟨#[116, 114, 105, 109]⟩, .string ⟨#[112, 97, 99, 107]⟩]) (.agg #[.string ⟨#[110, 111, 110, 101]⟩, .string ⟨#[112, 117, 116]⟩, .string ⟨#[103, 101, 116]⟩, .string ⟨#[101, 112, 111, 99, 104]⟩, .string ⟨#[106, 111, 105, 110]⟩, .string ⟨#[108, 101, 97, 118, 101]⟩, .string ⟨#[109, 97, 114, 107]⟩, .string ⟨#[114, 101, 97, 100]⟩, .string ⟨#[116, 105, 99, 107]⟩, .string ⟨#[116, 114, 105, 109]⟩, .string ⟨#[112, 97, 99, 107]⟩])).run Tryz.prog w = .ok false w := by kernel_rfl
theorem other_names7 (w : World) : (Op.equalIn 10000 265 (.agg #[.string ⟨#[110, 111, 110, 101]⟩, .string ⟨#[112, 117, 116]⟩, .string ⟨#[103, 101, 116]⟩, .string ⟨#[101, 112, 111, 99, 104]⟩, .string ⟨#[106, 111, 105, 110]⟩, .string ⟨#[108, 101, 97, 118, 101]⟩, .string ⟨#[109, 97, 114, 107]⟩, .string ⟨#[110, 111, 110, 101]⟩, .string ⟨#[116, 105, 99, 107]⟩, .string ⟨#[116, 114, 105, 109]⟩, .string ⟨#[112, 97, 99, 107]⟩]) (.agg #[.string ⟨#[110, 111, 110, 101]⟩, .string ⟨#[112, 117, 116]⟩, .string ⟨#[103, 101, 116]⟩, .string ⟨#[101, 112, 111, 99, 104]⟩, .string ⟨#[106, 111, 105, 110]⟩, .string ⟨#[108, 101, 97, 118, 101]⟩, .string ⟨#[109, 97, 114, 107]⟩, .string ⟨#[114, 101, 97, 100]⟩, .string ⟨#[116, 105, 99, 107]⟩, .string ⟨#[116, 114, 105, 109]⟩, .string ⟨#[112, 97, 99, 107]⟩])).run Tryz.prog w = .ok false w := by kernel_rfl
theorem other_names8 (w : World) : (Op.equalIn 10000 265 (.agg #[.string ⟨#[110, 111, 110, 101]⟩, .string ⟨#[112, 117, 116]⟩, .string ⟨#[103, 101, 116]⟩, .string ⟨#[101, 112, 111, 99, 104]⟩, .string ⟨#[106, 111, 105, 110]⟩, .string ⟨#[108, 101, 97, 118, 101]⟩, .string ⟨#[109, 97, 114, 107]⟩, .string ⟨#[114, 101, 97, 100]⟩, .string ⟨#[110, 111, 110, 101]⟩, .string ⟨#[116, 114, 105, 109]⟩, .string ⟨#[112, 97, 99, 107]⟩]) (.agg #[.string ⟨#[110, 111, 110, 101]⟩, .string ⟨#[112, 117, 116]⟩, .string ⟨#[103, 101, 116]⟩, .string ⟨#[101, 112, 111, 99, 104]⟩, .string ⟨#[106, 111, 105, 110]⟩, .string ⟨#[108, 101, 97, 118, 101]⟩, .string ⟨#[109, 97, 114, 107]⟩, .string ⟨#[114, 101, 97, 100]⟩, .string ⟨#[116, 105, 99, 107]⟩, .string ⟨#[116, 114, 105, 109]⟩, .string ⟨#[112, 97, 99, 107]⟩])).run Tryz.prog w = .ok false w := by kernel_rfl
theorem other_names9 (w : World) : (Op.equalIn 10000 265 (.agg #[.string ⟨#[110, 111, 110, 101]⟩, .string ⟨#[112, 117, 116]⟩, .string ⟨#[103, 101, 116]⟩, .string ⟨#[101, 112, 111, 99, 104]⟩, .string ⟨#[106, 111, 105, 110]⟩, .string ⟨#[108, 101, 97, 118, 101]⟩, .string ⟨#[109, 97, 114, 107]⟩, .string ⟨#[114, 101, 97, 100]⟩, .string ⟨#[116, 105, 99, 107]⟩, .string ⟨#[110, 111, 110, 101]⟩, .string ⟨#[112, 97, 99, 107]⟩]) (.agg #[.string ⟨#[110, 111, 110, 101]⟩, .string ⟨#[112, 117, 116]⟩, .string ⟨#[103, 101, 116]⟩, .string ⟨#[101, 112, 111, 99, 104]⟩, .string ⟨#[106, 111, 105, 110]⟩, .string ⟨#[108, 101, 97, 118, 101]⟩, .string ⟨#[109, 97, 114, 107]⟩, .string ⟨#[114, 101, 97, 100]⟩, .string ⟨#[116, 105, 99, 107]⟩, .string ⟨#[116, 114, 105, 109]⟩, .string ⟨#[112, 97, 99, 107]⟩])).run Tryz.prog w = .ok false w := by kernel_rfl
theorem other_names10 (w : World) : (Op.equalIn 10000 265 (.agg #[.string ⟨#[110, 111, 110, 101]⟩, .string ⟨#[112, 117, 116]⟩, .string ⟨#[103, 101, 116]⟩, .string ⟨#[101, 112, 111, 99, 104]⟩, .string ⟨#[106, 111, 105, 110]⟩, .string ⟨#[108, 101, 97, 118, 101]⟩, .string ⟨#[109, 97, 114, 107]⟩, .string ⟨#[114, 101, 97, 100]⟩, .string ⟨#[116, 105, 99, 107]⟩, .string ⟨#[116, 114, 105, 109]⟩, .string ⟨#[110, 111, 110, 101]⟩]) (.agg #[.string ⟨#[110, 111, 110, 101]⟩, .string ⟨#[112, 117, 116]⟩, .string ⟨#[103, 101, 116]⟩, .string ⟨#[101, 112, 111, 99, 104]⟩, .string ⟨#[106, 111, 105, 110]⟩, .string ⟨#[108, 101, 97, 118, 101]⟩, .string ⟨#[109, 97, 114, 107]⟩, .string ⟨#[114, 101, 97, 100]⟩, .string ⟨#[116, 105, 99, 107]⟩, .string ⟨#[116, 114, 105, 109]⟩, .string ⟨#[112, 97, 99, 107]⟩])).run Tryz.prog w = .ok false w := by kernel_rfl
theorem isOp_out (op : Int) (h : inB op 0 10 = false) (w : World) :
    Calls Tryz.prog 207 #[.int .i64 op] w fun e w' => e = .returned (.bool false) /\ Below w.heap.size w w' := by
  have heq := same_names
  go_enter Tryz.func207, Tryz.ntmps207
  go_wp2_with (go_at_call 213; refine (names_any _).mono ?_; rintro e w1 ⟨rfl, g1⟩; obtain ⟨c1, f1⟩ := bcell g1; have s1 := g1.size; try simp at s1)
  go_region_with (go_at_call 214; refine (without_out _ h _).mono ?_; rintro e w2 ⟨rfl, g2⟩; obtain ⟨c2, f2⟩ := bcell g2; have s2 := g2.size; try simp at s2; have q2 : w1.heap.size < w2.heap.size := by omega)
  all_goals
    go_wp2
    go_ret
    refine ⟨rfl, ?_⟩
    repeat (first | exact Below.refl _ _ | (refine via (by assumption) (by first | omega | (simp; done) | (simp; omega)) ?_) | refine Below.drew ?_ | refine Below.setCell ?_ (by first | omega | (simp; done) | (simp; omega)) _ | refine Below.alloc ?_ (by first | omega | (simp; done) | (simp; omega)) _)
theorem isOp_0 (w : World) :
    Calls Tryz.prog 207 #[.int .i64 0] w fun e w' => e = .returned (.bool false) /\ Below w.heap.size w w' := by
  have heq := same_names
  go_enter Tryz.func207, Tryz.ntmps207
  go_wp2_with (go_at_call 213; refine (names_any _).mono ?_; rintro e w1 ⟨rfl, g1⟩; obtain ⟨c1, f1⟩ := bcell g1; have s1 := g1.size; try simp at s1)
  go_region_with (go_at_call 214; refine (without_0 _).mono ?_; rintro e w2 ⟨rfl, g2⟩; obtain ⟨c2, f2⟩ := bcell g2; have s2 := g2.size; try simp at s2; have q2 : w1.heap.size < w2.heap.size := by omega)
  all_goals
    go_wp2
    go_ret
    refine ⟨rfl, ?_⟩
    repeat (first | exact Below.refl _ _ | (refine via (by assumption) (by first | omega | (simp; done) | (simp; omega)) ?_) | refine Below.drew ?_ | refine Below.setCell ?_ (by first | omega | (simp; done) | (simp; omega)) _ | refine Below.alloc ?_ (by first | omega | (simp; done) | (simp; omega)) _)
theorem isOp_1 (w : World) :
    Calls Tryz.prog 207 #[.int .i64 1] w fun e w' => e = .returned (.bool true) /\ Below w.heap.size w w' := by
  have heq := other_names1
  go_enter Tryz.func207, Tryz.ntmps207
  go_wp2_with (go_at_call 213; refine (names_any _).mono ?_; rintro e w1 ⟨rfl, g1⟩; obtain ⟨c1, f1⟩ := bcell g1; have s1 := g1.size; try simp at s1)
  go_region_with (go_at_call 214; refine (without_1 _).mono ?_; rintro e w2 ⟨rfl, g2⟩; obtain ⟨c2, f2⟩ := bcell g2; have s2 := g2.size; try simp at s2; have q2 : w1.heap.size < w2.heap.size := by omega)
  all_goals
    go_wp2
    go_ret
    refine ⟨rfl, ?_⟩
    repeat (first | exact Below.refl _ _ | (refine via (by assumption) (by first | omega | (simp; done) | (simp; omega)) ?_) | refine Below.drew ?_ | refine Below.setCell ?_ (by first | omega | (simp; done) | (simp; omega)) _ | refine Below.alloc ?_ (by first | omega | (simp; done) | (simp; omega)) _)
theorem isOp_2 (w : World) :
    Calls Tryz.prog 207 #[.int .i64 2] w fun e w' => e = .returned (.bool true) /\ Below w.heap.size w w' := by
  have heq := other_names2
  go_enter Tryz.func207, Tryz.ntmps207
  go_wp2_with (go_at_call 213; refine (names_any _).mono ?_; rintro e w1 ⟨rfl, g1⟩; obtain ⟨c1, f1⟩ := bcell g1; have s1 := g1.size; try simp at s1)
  go_region_with (go_at_call 214; refine (without_2 _).mono ?_; rintro e w2 ⟨rfl, g2⟩; obtain ⟨c2, f2⟩ := bcell g2; have s2 := g2.size; try simp at s2; have q2 : w1.heap.size < w2.heap.size := by omega)
  all_goals
    go_wp2
    go_ret
    refine ⟨rfl, ?_⟩
    repeat (first | exact Below.refl _ _ | (refine via (by assumption) (by first | omega | (simp; done) | (simp; omega)) ?_) | refine Below.drew ?_ | refine Below.setCell ?_ (by first | omega | (simp; done) | (simp; omega)) _ | refine Below.alloc ?_ (by first | omega | (simp; done) | (simp; omega)) _)
theorem isOp_3 (w : World) :
    Calls Tryz.prog 207 #[.int .i64 3] w fun e w' => e = .returned (.bool true) /\ Below w.heap.size w w' := by
  have heq := other_names3
  go_enter Tryz.func207, Tryz.ntmps207
  go_wp2_with (go_at_call 213; refine (names_any _).mono ?_; rintro e w1 ⟨rfl, g1⟩; obtain ⟨c1, f1⟩ := bcell g1; have s1 := g1.size; try simp at s1)
  go_region_with (go_at_call 214; refine (without_3 _).mono ?_; rintro e w2 ⟨rfl, g2⟩; obtain ⟨c2, f2⟩ := bcell g2; have s2 := g2.size; try simp at s2; have q2 : w1.heap.size < w2.heap.size := by omega)
  all_goals
    go_wp2
    go_ret
    refine ⟨rfl, ?_⟩
    repeat (first | exact Below.refl _ _ | (refine via (by assumption) (by first | omega | (simp; done) | (simp; omega)) ?_) | refine Below.drew ?_ | refine Below.setCell ?_ (by first | omega | (simp; done) | (simp; omega)) _ | refine Below.alloc ?_ (by first | omega | (simp; done) | (simp; omega)) _)
theorem isOp_4 (w : World) :
    Calls Tryz.prog 207 #[.int .i64 4] w fun e w' => e = .returned (.bool true) /\ Below w.heap.size w w' := by
  have heq := other_names4
  go_enter Tryz.func207, Tryz.ntmps207
  go_wp2_with (go_at_call 213; refine (names_any _).mono ?_; rintro e w1 ⟨rfl, g1⟩; obtain ⟨c1, f1⟩ := bcell g1; have s1 := g1.size; try simp at s1)
  go_region_with (go_at_call 214; refine (without_4 _).mono ?_; rintro e w2 ⟨rfl, g2⟩; obtain ⟨c2, f2⟩ := bcell g2; have s2 := g2.size; try simp at s2; have q2 : w1.heap.size < w2.heap.size := by omega)
  all_goals
    go_wp2
    go_ret
    refine ⟨rfl, ?_⟩
    repeat (first | exact Below.refl _ _ | (refine via (by assumption) (by first | omega | (simp; done) | (simp; omega)) ?_) | refine Below.drew ?_ | refine Below.setCell ?_ (by first | omega | (simp; done) | (simp; omega)) _ | refine Below.alloc ?_ (by first | omega | (simp; done) | (simp; omega)) _)
theorem isOp_5 (w : World) :
    Calls Tryz.prog 207 #[.int .i64 5] w fun e w' => e = .returned (.bool true) /\ Below w.heap.size w w' := by
  have heq := other_names5
  go_enter Tryz.func207, Tryz.ntmps207
  go_wp2_with (go_at_call 213; refine (names_any _).mono ?_; rintro e w1 ⟨rfl, g1⟩; obtain ⟨c1, f1⟩ := bcell g1; have s1 := g1.size; try simp at s1)
  go_region_with (go_at_call 214; refine (without_5 _).mono ?_; rintro e w2 ⟨rfl, g2⟩; obtain ⟨c2, f2⟩ := bcell g2; have s2 := g2.size; try simp at s2; have q2 : w1.heap.size < w2.heap.size := by omega)
  all_goals
    go_wp2
    go_ret
    refine ⟨rfl, ?_⟩
    repeat (first | exact Below.refl _ _ | (refine via (by assumption) (by first | omega | (simp; done) | (simp; omega)) ?_) | refine Below.drew ?_ | refine Below.setCell ?_ (by first | omega | (simp; done) | (simp; omega)) _ | refine Below.alloc ?_ (by first | omega | (simp; done) | (simp; omega)) _)
theorem isOp_6 (w : World) :
    Calls Tryz.prog 207 #[.int .i64 6] w fun e w' => e = .returned (.bool true) /\ Below w.heap.size w w' := by
  have heq := other_names6
  go_enter Tryz.func207, Tryz.ntmps207
  go_wp2_with (go_at_call 213; refine (names_any _).mono ?_; rintro e w1 ⟨rfl, g1⟩; obtain ⟨c1, f1⟩ := bcell g1; have s1 := g1.size; try simp at s1)
  go_region_with (go_at_call 214; refine (without_6 _).mono ?_; rintro e w2 ⟨rfl, g2⟩; obtain ⟨c2, f2⟩ := bcell g2; have s2 := g2.size; try simp at s2; have q2 : w1.heap.size < w2.heap.size := by omega)
  all_goals
    go_wp2
    go_ret
    refine ⟨rfl, ?_⟩
    repeat (first | exact Below.refl _ _ | (refine via (by assumption) (by first | omega | (simp; done) | (simp; omega)) ?_) | refine Below.drew ?_ | refine Below.setCell ?_ (by first | omega | (simp; done) | (simp; omega)) _ | refine Below.alloc ?_ (by first | omega | (simp; done) | (simp; omega)) _)
theorem isOp_7 (w : World) :
    Calls Tryz.prog 207 #[.int .i64 7] w fun e w' => e = .returned (.bool true) /\ Below w.heap.size w w' := by
  have heq := other_names7
  go_enter Tryz.func207, Tryz.ntmps207
  go_wp2_with (go_at_call 213; refine (names_any _).mono ?_; rintro e w1 ⟨rfl, g1⟩; obtain ⟨c1, f1⟩ := bcell g1; have s1 := g1.size; try simp at s1)
  go_region_with (go_at_call 214; refine (without_7 _).mono ?_; rintro e w2 ⟨rfl, g2⟩; obtain ⟨c2, f2⟩ := bcell g2; have s2 := g2.size; try simp at s2; have q2 : w1.heap.size < w2.heap.size := by omega)
  all_goals
    go_wp2
    go_ret
    refine ⟨rfl, ?_⟩
    repeat (first | exact Below.refl _ _ | (refine via (by assumption) (by first | omega | (simp; done) | (simp; omega)) ?_) | refine Below.drew ?_ | refine Below.setCell ?_ (by first | omega | (simp; done) | (simp; omega)) _ | refine Below.alloc ?_ (by first | omega | (simp; done) | (simp; omega)) _)
theorem isOp_8 (w : World) :
    Calls Tryz.prog 207 #[.int .i64 8] w fun e w' => e = .returned (.bool true) /\ Below w.heap.size w w' := by
  have heq := other_names8
  go_enter Tryz.func207, Tryz.ntmps207
  go_wp2_with (go_at_call 213; refine (names_any _).mono ?_; rintro e w1 ⟨rfl, g1⟩; obtain ⟨c1, f1⟩ := bcell g1; have s1 := g1.size; try simp at s1)
  go_region_with (go_at_call 214; refine (without_8 _).mono ?_; rintro e w2 ⟨rfl, g2⟩; obtain ⟨c2, f2⟩ := bcell g2; have s2 := g2.size; try simp at s2; have q2 : w1.heap.size < w2.heap.size := by omega)
  all_goals
    go_wp2
    go_ret
    refine ⟨rfl, ?_⟩
    repeat (first | exact Below.refl _ _ | (refine via (by assumption) (by first | omega | (simp; done) | (simp; omega)) ?_) | refine Below.drew ?_ | refine Below.setCell ?_ (by first | omega | (simp; done) | (simp; omega)) _ | refine Below.alloc ?_ (by first | omega | (simp; done) | (simp; omega)) _)
theorem isOp_9 (w : World) :
    Calls Tryz.prog 207 #[.int .i64 9] w fun e w' => e = .returned (.bool true) /\ Below w.heap.size w w' := by
  have heq := other_names9
  go_enter Tryz.func207, Tryz.ntmps207
  go_wp2_with (go_at_call 213; refine (names_any _).mono ?_; rintro e w1 ⟨rfl, g1⟩; obtain ⟨c1, f1⟩ := bcell g1; have s1 := g1.size; try simp at s1)
  go_region_with (go_at_call 214; refine (without_9 _).mono ?_; rintro e w2 ⟨rfl, g2⟩; obtain ⟨c2, f2⟩ := bcell g2; have s2 := g2.size; try simp at s2; have q2 : w1.heap.size < w2.heap.size := by omega)
  all_goals
    go_wp2
    go_ret
    refine ⟨rfl, ?_⟩
    repeat (first | exact Below.refl _ _ | (refine via (by assumption) (by first | omega | (simp; done) | (simp; omega)) ?_) | refine Below.drew ?_ | refine Below.setCell ?_ (by first | omega | (simp; done) | (simp; omega)) _ | refine Below.alloc ?_ (by first | omega | (simp; done) | (simp; omega)) _)
theorem isOp_10 (w : World) :
    Calls Tryz.prog 207 #[.int .i64 10] w fun e w' => e = .returned (.bool true) /\ Below w.heap.size w w' := by
  have heq := other_names10
  go_enter Tryz.func207, Tryz.ntmps207
  go_wp2_with (go_at_call 213; refine (names_any _).mono ?_; rintro e w1 ⟨rfl, g1⟩; obtain ⟨c1, f1⟩ := bcell g1; have s1 := g1.size; try simp at s1)
  go_region_with (go_at_call 214; refine (without_10 _).mono ?_; rintro e w2 ⟨rfl, g2⟩; obtain ⟨c2, f2⟩ := bcell g2; have s2 := g2.size; try simp at s2; have q2 : w1.heap.size < w2.heap.size := by omega)
  all_goals
    go_wp2
    go_ret
    refine ⟨rfl, ?_⟩
    repeat (first | exact Below.refl _ _ | (refine via (by assumption) (by first | omega | (simp; done) | (simp; omega)) ?_) | refine Below.drew ?_ | refine Below.setCell ?_ (by first | omega | (simp; done) | (simp; omega)) _ | refine Below.alloc ?_ (by first | omega | (simp; done) | (simp; omega)) _)
theorem isOp_any (op : Int) (w : World) :
    Calls Tryz.prog 207 #[.int .i64 op] w fun e w' => e = .returned (.bool (inB op 1 10)) /\ Below w.heap.size w w' := by
  rcases op_ways op with h | rfl | rfl | rfl | rfl | rfl | rfl | rfl | rfl | rfl | rfl | rfl
  . have e : inB op 1 10 = false := by simp only [inB, decide_eq_false_iff_not] at h ⊢; omega
    rw [e]; exact isOp_out op h w
  . exact isOp_0 w
  . exact isOp_1 w
  . exact isOp_2 w
  . exact isOp_3 w
  . exact isOp_4 w
  . exact isOp_5 w
  . exact isOp_6 w
  . exact isOp_7 w
  . exact isOp_8 w
  . exact isOp_9 w
  . exact isOp_10 w
end Go.Proofs.YtanihpmgoeadkaaGreat.CmdOk

/-
  What the program's CmdOk and the specification's answer: the same. No condition but the length that every text has.
-/
namespace Go.Proofs.YtanihpmgoeadkaaGreat.CmdOk
open Go.ChangeShapes Go.WideShapes Go.ChangeAt Go.RowKit Go.Joins Base Cmd
set_option linter.unusedVariables false
theorem own : ownKnob Tryz.prog.godebug = none := by kernel_rfl
theorem laidOut : laidOutB Tryz.prog = true := by kernel_rfl
def restB (who seq op a b c : Int) (k t : ByteArray) : Bool :=
  inB who 0 3 && inB seq 1 100000 && inB op 1 10 && inB a 0 100000 && inB b 0 100000 && inB c 0 100000 && textB k && textB t
def nobodyB (seq op a b c : Int) (k t : ByteArray) : Bool :=
  seq == 0 && op == 0 && a == 0 && b == 0 && c == 0 && k.toList == [] && t.toList == []
def okB (who seq op a b c : Int) (k t : ByteArray) : Bool := if who = -1 then nobodyB seq op a b c k t else restB who seq op a b c k t
theorem eqC (who seq op a b c : Int) (k t : ByteArray) (w : World) :
    (Op.equalIn 10000 127 (.agg #[.int .i64 who, .int .i64 seq, .int .i64 op, .int .i64 a, .int .i64 b, .int .i64 c, .string k, .string t]) (.agg #[.int .i64 (-1), .int .i64 0, .int .i64 0, .int .i64 0, .int .i64 0, .int .i64 0, .string ⟨#[]⟩, .string ⟨#[]⟩])).run Tryz.prog w = .ok (who == -1 && nobodyB seq op a b c k t) w := by
  have u3 := Tryz.underlying3
  have us := Tryz.underlying9
  have hS : Tryz.prog.underlying 127 = some (.struct (Tryz.prog.fieldsOf 127)) := by kernel_rfl
  rw [show (10000 : Nat) = 9999 + 1 from rfl, run_equalIn_agg w 9999 127 _ _ hS (by kernel_rfl)]
  simp only [Program.fieldsOf, Tryz.underlying127]
  go_simp
  simp only [nobodyB]
  repeat' split
  all_goals simp_all
theorem eight (p0 p1 p2 p3 p4 p5 p6 p7 : Bool) : p0 = false ∨ (p0 = true /\ p1 = false) ∨ (p0 = true /\ p1 = true /\ p2 = false) ∨ (p0 = true /\ p1 = true /\ p2 = true /\ p3 = false) ∨
    (p0 = true /\ p1 = true /\ p2 = true /\ p3 = true /\ p4 = false) ∨ (p0 = true /\ p1 = true /\ p2 = true /\ p3 = true /\ p4 = true /\ p5 = false) ∨
    (p0 = true /\ p1 = true /\ p2 = true /\ p3 = true /\ p4 = true /\ p5 = true /\ p6 = false) ∨ (p0 = true /\ p1 = true /\ p2 = true /\ p3 = true /\ p4 = true /\ p5 = true /\ p6 = true /\ p7 = false) ∨
    (p0 = true /\ p1 = true /\ p2 = true /\ p3 = true /\ p4 = true /\ p5 = true /\ p6 = true /\ p7 = true) := by
  cases p0<;>cases p1<;>cases p2<;>cases p3<;>cases p4<;>cases p5<;>cases p6<;>cases p7<;>simp
theorem spec_nobody (seq op a b c : Int) (k t : ByteArray) (w : World) :
    Calls Tryz.prog 132 #[.agg #[.int .i64 (-1), .int .i64 seq, .int .i64 op, .int .i64 a, .int .i64 b, .int .i64 c, .string k, .string t]] w fun e w' => e = .returned (.bool (nobodyB seq op a b c k t)) /\ Below w.heap.size w w' := by
  have heq := eqC (-1) seq op a b c k t
  go_enter Tryz.func132, Tryz.ntmps132
  go_wp2
  go_ret
  exact ⟨by simp, by repeat (first | exact Below.refl _ _ | (refine via (by assumption) (by first | omega | (simp; done) | (simp; omega)) ?_) | refine Below.drew ?_ | refine Below.setCell ?_ (by first | omega | (simp; done) | (simp; omega)) _ | refine Below.alloc ?_ (by first | omega | (simp; done) | (simp; omega)) _)⟩
set_option maxHeartbeats 1000000 in
theorem spec_rest (who seq op a b c : Int) (k t : ByteArray) (hk : k.size <= 9223372036854775807) (ht : t.size <= 9223372036854775807) (hw : ((who : Int) == -1) = false) (w : World) :
    Calls Tryz.prog 132 #[.agg #[.int .i64 who, .int .i64 seq, .int .i64 op, .int .i64 a, .int .i64 b, .int .i64 c, .string k, .string t]] w fun e w' => e = .returned (.bool (restB who seq op a b c k t)) /\ Below w.heap.size w w' := by
  rcases eight (inB who 0 3) (inB seq 1 100000) (inB op 1 10) (inB a 0 100000) (inB b 0 100000) (inB c 0 100000) (textB k) (textB t) with h0 | ⟨h0, h1⟩ | ⟨h0, h1, h2⟩ | ⟨h0, h1, h2, h3⟩ | ⟨h0, h1, h2, h3, h4⟩ | ⟨h0, h1, h2, h3, h4, h5⟩ | ⟨h0, h1, h2, h3, h4, h5, h6⟩ | ⟨h0, h1, h2, h3, h4, h5, h6, h7⟩ | ⟨h0, h1, h2, h3, h4, h5, h6, h7⟩
  all_goals
    go_enter Tryz.func132, Tryz.ntmps132
    go_wp2_with (first
      | (go_at_call 25; refine (in_any _ _ _ _).mono ?_; rintro e w' ⟨rfl, rfl⟩)
      | (go_at_call_of 135 (Value.string k); refine (specText_any k hk _).mono ?_; rintro e w1 ⟨rfl, g1⟩; obtain ⟨c1, f1⟩ := bcell g1; have s1 := g1.size; try simp at s1; have q1 : w.heap.size < w1.heap.size := by omega)
      | (go_at_call_of 135 (Value.string t); refine (specText_any t ht _).mono ?_; rintro e w1 ⟨rfl, g1⟩; obtain ⟨c1, f1⟩ := bcell g1; have s1 := g1.size; try simp at s1; have q1 : w.heap.size < w1.heap.size := by omega))
    go_ret
    refine ⟨by simp [restB, *], ?_⟩
    repeat (first | exact Below.refl _ _ | (refine via (by assumption) (by first | omega | (simp; done) | (simp; omega)) ?_) | refine Below.drew ?_ | refine Below.setCell ?_ (by first | omega | (simp; done) | (simp; omega)) _ | refine Below.alloc ?_ (by first | omega | (simp; done) | (simp; omega)) _)
theorem spec_any (who seq op a b c : Int) (k t : ByteArray) (hk : k.size <= 9223372036854775807) (ht : t.size <= 9223372036854775807) (w : World) :
    Calls Tryz.prog 132 #[.agg #[.int .i64 who, .int .i64 seq, .int .i64 op, .int .i64 a, .int .i64 b, .int .i64 c, .string k, .string t]] w fun e w' => e = .returned (.bool (okB who seq op a b c k t)) /\ Below w.heap.size w w' := by
  unfold okB
  by_cases h : who = -1
  . subst h; rw [if_pos rfl]; exact spec_nobody seq op a b c k t w
  . rw [if_neg h]; exact spec_rest who seq op a b c k t hk ht (by simpa using h) w
theorem impl_nobody (seq op a b c : Int) (k t : ByteArray) (w : World) :
    Calls Tryz.prog 191 #[.agg #[.int .i64 (-1), .int .i64 seq, .int .i64 op, .int .i64 a, .int .i64 b, .int .i64 c, .string k, .string t]] w fun e w' => e = .returned (.bool (nobodyB seq op a b c k t)) /\ Below w.heap.size w w' := by
  have heq := eqC (-1) seq op a b c k t
  go_enter Tryz.func191, Tryz.ntmps191
  go_wp2
  go_ret
  exact ⟨by simp, by repeat (first | exact Below.refl _ _ | (refine via (by assumption) (by first | omega | (simp; done) | (simp; omega)) ?_) | refine Below.drew ?_ | refine Below.setCell ?_ (by first | omega | (simp; done) | (simp; omega)) _ | refine Below.alloc ?_ (by first | omega | (simp; done) | (simp; omega)) _)⟩
set_option maxHeartbeats 1000000 in
theorem impl_rest (who seq op a b c : Int) (k t : ByteArray) (hk : k.size <= 9223372036854775807) (ht : t.size <= 9223372036854775807) (hw : ((who : Int) == -1) = false) (w : World) :
    Calls Tryz.prog 191 #[.agg #[.int .i64 who, .int .i64 seq, .int .i64 op, .int .i64 a, .int .i64 b, .int .i64 c, .string k, .string t]] w fun e w' => e = .returned (.bool (restB who seq op a b c k t)) /\ Below w.heap.size w w' := by
  rcases eight (inB who 0 3) (inB seq 1 100000) (inB op 1 10) (inB a 0 100000) (inB b 0 100000) (inB c 0 100000) (textB k) (textB t) with h0 | ⟨h0, h1⟩ | ⟨h0, h1, h2⟩ | ⟨h0, h1, h2, h3⟩ | ⟨h0, h1, h2, h3, h4⟩ | ⟨h0, h1, h2, h3, h4, h5⟩ | ⟨h0, h1, h2, h3, h4, h5, h6⟩ | ⟨h0, h1, h2, h3, h4, h5, h6, h7⟩ | ⟨h0, h1, h2, h3, h4, h5, h6, h7⟩
  all_goals
    go_enter Tryz.func191, Tryz.ntmps191
    go_wp2_with (first
      | (go_at_call 88; refine (within_any _ _ _ _).mono ?_; rintro e w' ⟨rfl, rfl⟩)
      | (go_at_call 207; refine (isOp_any _ _).mono ?_; rintro e w1 ⟨rfl, g1⟩; obtain ⟨c1, f1⟩ := bcell g1; have s1 := g1.size; try simp at s1; have q1 : w.heap.size < w1.heap.size := by omega)
      | (go_at_call_of 199 (Value.string k); refine (implText_any k hk _).mono ?_; rintro e w1 ⟨rfl, g1⟩; obtain ⟨c1, f1⟩ := bcell g1; have s1 := g1.size; try simp at s1; have q1 : w.heap.size < w1.heap.size := by omega)
      | (go_at_call_of 199 (Value.string t); refine (implText_any t ht _).mono ?_; rintro e w1 ⟨rfl, g1⟩; obtain ⟨c1, f1⟩ := bcell g1; have s1 := g1.size; try simp at s1; have q1 : w.heap.size < w1.heap.size := by omega))
    go_ret
    refine ⟨by simp [restB, *], ?_⟩
    repeat (first | exact Below.refl _ _ | (refine via (by assumption) (by first | omega | (simp; done) | (simp; omega)) ?_) | refine Below.drew ?_ | refine Below.setCell ?_ (by first | omega | (simp; done) | (simp; omega)) _ | refine Below.alloc ?_ (by first | omega | (simp; done) | (simp; omega)) _)
theorem impl_any (who seq op a b c : Int) (k t : ByteArray) (hk : k.size <= 9223372036854775807) (ht : t.size <= 9223372036854775807) (w : World) :
    Calls Tryz.prog 191 #[.agg #[.int .i64 who, .int .i64 seq, .int .i64 op, .int .i64 a, .int .i64 b, .int .i64 c, .string k, .string t]] w fun e w' => e = .returned (.bool (okB who seq op a b c k t)) /\ Below w.heap.size w w' := by
  unfold okB
  by_cases h : who = -1
  . subst h; rw [if_pos rfl]; exact impl_nobody seq op a b c k t w
  . rw [if_neg h]; exact impl_rest who seq op a b c k t hk ht (by simpa using h) w
end Go.Proofs.YtanihpmgoeadkaaGreat.CmdOk

/-
  Disks: what the laws' sz, to, eq, mark and held functions of them do; a disk opened. No condition but that there are at most 1048576 bytes.
-/
namespace Go.Proofs.YtanihpmgoeadkaaGreat.Gen
open Go.ChangeShapes Go.WideShapes Go.ChangeAt Go.RowKit Go.Joins Go.Deep Base
set_option linter.unusedVariables false
theorem At.hidB {w : World} {A : Option Addr} {l : List UInt8} (hA : At w A l) : Hid (∀ W : World, Below w.heap.size w W -> At W A l) := fun W hW => hA.below hW
theorem szByteS_any (A : Option Addr) (cap : Nat) (l : List UInt8) (hl : l.length <= 9223372036854775807) (left : Int) (h0 : 0 <= left) (h1 : left <= 1048576) (w : World) :
    Calls Tryz.prog 71 #[.slice A l.length cap, .int .i64 left] w fun e w' => (∃ r : Int, e = .returned (.int .i64 r) /\ (r < 0 ∨ (0 <= r /\ r = left - (l.length : Int)))) /\ w' = w := by
  generalize l.length = n at hl ⊢
  by_cases hn : left - (n : Int) < 0
  . go_enter Tryz.func71, Tryz.ntmps71
    go_wp2
    go_ret
    exact ⟨⟨-1, rfl, .inl (by omega)⟩, rfl⟩
  . go_enter Tryz.func71, Tryz.ntmps71
    go_wp2
    go_ret
    exact ⟨⟨left - (n : Int), rfl, .inr ⟨by omega, rfl⟩⟩, rfl⟩
theorem szDisk_any (su : Int) (A : Option Addr) (cap : Nat) (l : List UInt8) (hl : l.length <= 9223372036854775807) (left : Int) (h0 : 0 <= left) (h1 : left <= 1048576) (w : World) :
    Calls Tryz.prog 23 #[.agg #[.slice A l.length cap, .int .i64 su], .int .i64 left] w fun e w' => (∃ r : Int, e = .returned (.int .i64 r) /\ (r < 0 ∨ (0 <= r /\ r = left - (l.length : Int)))) /\ Below w.heap.size w w' := by
  go_enter Tryz.func23, Tryz.ntmps23
  go_wp2_with fail
  refine (szByteS_any A cap l hl left h0 h1 _).mono ?_
  rintro e w1 ⟨⟨r, rfl, hr⟩, rfl⟩
  have HR := hidP hr
  clear hr
  by_cases hn : r < 0
  . go_wp2
    go_ret
    exact ⟨⟨-1, rfl, .inl (by omega)⟩, by repeat (first | exact Below.refl _ _ | assumption | refine via0 (by assumption) ?_ | refine Below.drew ?_ | refine alloc0 ?_ _)⟩
  . go_wp2
    go_ret
    exact ⟨⟨r, rfl, HR.out⟩, by repeat (first | exact Below.refl _ _ | assumption | refine via0 (by assumption) ?_ | refine Below.drew ?_ | refine alloc0 ?_ _)⟩
set_option maxRecDepth 100000 in
theorem toDisk_any (su : Int) (A : Option Addr) (cap : Nat) (l : List UInt8) (hl : l.length <= 1048576) (w : World) (hA : At w A l) :
    Calls Tryz.prog 35 #[.agg #[.slice A l.length cap, .int .i64 su]] w
      fun e w' => ∃ b, e = .returned (.agg #[.slice (some ⟨b, 0, none⟩) l.length l.length, .int .i64 su]) /\ Below w.heap.size w w' /\ w.heap.size <= b /\ b < w'.heap.size /\ In w' b 0 l /\ w'.there b 0 (l.length * 1) := by
  have HA := hA.hidB
  clear hA
  go_enter Tryz.func35, Tryz.ntmps35
  go_wp2_with (go_at_call 84; refine (toB_any A cap l hl _ (HA.out _ ?_)).mono ?_; (repeat (first | exact Below.refl _ _ | assumption | refine via0 (by assumption) ?_ | refine Below.drew ?_ | refine alloc0 ?_ _)); rintro e w1 ⟨rfl, g1, s1, i1, t1⟩; obtain ⟨k1, m1⟩ := bcell g1)
  have i2 : In w1 (w.heap.size + 1 + 1 + 1) 0 l := by simpa using i1
  have t2 : w1.there (w.heap.size + 1 + 1 + 1) 0 (l.length * 1) := by simpa using t1
  have s2 : w.heap.size + 1 + 1 + 1 < w1.heap.size := by simpa using s1
  have g2 : Below w.heap.size w w1 := via0 g1 (by repeat (first | exact Below.refl _ _ | assumption | refine via0 (by assumption) ?_ | refine Below.drew ?_ | refine alloc0 ?_ _))
  refine bodyPost_ret (v := .agg #[.slice (some ⟨w.heap.size + 1 + 1 + 1, 0, none⟩) l.length l.length, .int .i64 su]) (by simp [results, Tryz.results35, go_sem, k1]) rfl ⟨w.heap.size + 1 + 1 + 1, rfl, ?_, by omega, by simp; omega, ?_, ?_⟩
  . exact bl_set (bl_set (bl_set (bl_set (g2) (by omega) _) (by omega) _) (by omega) _) (by omega) _
  . exact In.set (In.set (In.set (In.set (i2) _ _ (by simp)) _ _ (by simp)) _ _ (by simp)) _ _ (by simp)
  . exact there_set (there_set (there_set (there_set (t2) _ _ _) _ _ _) _ _ _) _ _ _
theorem eqDisk_same (su : Int) (A A' : Option Addr) (cap cap' : Nat) (l : List UInt8) (hl : l.length <= 9223372036854775807) (w : World) (hA : At w A l) (hA' : At w A' l) :
    Calls Tryz.prog 43 #[.agg #[.slice A l.length cap, .int .i64 su], .agg #[.slice A' l.length cap', .int .i64 su]] w fun e w' => e = .returned (.bool true) /\ Below w.heap.size w w' := by
  have HA := hA.hidB
  have HA' := hA'.hidB
  clear hA hA'
  go_enter Tryz.func43, Tryz.ntmps43
  go_wp2_with (go_at_call 99; refine (eqB_same A A' cap cap' l hl _ (HA.out _ ?_) (HA'.out _ ?_)).mono ?_; (repeat (first | exact Below.refl _ _ | assumption | refine via0 (by assumption) ?_ | refine Below.drew ?_ | refine alloc0 ?_ _)); (repeat (first | exact Below.refl _ _ | assumption | refine via0 (by assumption) ?_ | refine Below.drew ?_ | refine alloc0 ?_ _)); rintro e w1 ⟨rfl, g1⟩; obtain ⟨k1, m1⟩ := bcell g1)
  go_ret
  refine ⟨rfl, ?_⟩
  repeat (first | exact Below.refl _ _ | assumption | refine via0 (by assumption) ?_ | refine Below.drew ?_ | refine alloc0 ?_ _)
end Go.Proofs.YtanihpmgoeadkaaGreat.Gen

/-
  Numbers within limits, as the program and as the specification tell them. No condition.
-/
namespace Go.Proofs.YtanihpmgoeadkaaGreat.Gen
open Go.ChangeShapes Go.WideShapes Go.ChangeAt Go.RowKit Go.Joins Go.Deep Base
set_option linter.unusedVariables false
set_option linter.unusedSimpArgs false
def inB (x lo hi : Int) : Bool := decide (lo <= x /\ x <= hi)
theorem within_any (x lo hi : Int) (w : World) :
    Calls Tryz.prog 88 #[.int .i64 x, .int .i64 lo, .int .i64 hi] w fun e w' => e = .returned (.bool (inB x lo hi)) /\ w' = w := by
  by_cases h1 : lo <= x
  . by_cases h2 : x <= hi
    . have e : Hid (inB x lo hi = true) := by show _ = _; simp [inB, h1, h2]
      go_enter Tryz.func88, Tryz.ntmps88
      go_wp2
      go_ret
      exact ⟨by rw [e.out]; rfl, rfl⟩
    . have e : Hid (inB x lo hi = false) := by show _ = _; simp [inB, h2]
      have h2' : decide (x <= hi) = false := decide_eq_false h2
      go_enter Tryz.func88, Tryz.ntmps88
      go_wp2
      go_ret
      exact ⟨by rw [e.out]; first | rfl | (rw [← h2']; rfl), rfl⟩
  . have e : Hid (inB x lo hi = false) := by show _ = _; simp [inB, h1]
    go_enter Tryz.func88, Tryz.ntmps88
    go_wp2
    go_ret
    exact ⟨by rw [e.out]; rfl, rfl⟩
theorem in_any (x lo hi : Int) (w : World) :
    Calls Tryz.prog 25 #[.int .i64 x, .int .i64 lo, .int .i64 hi] w fun e w' => e = .returned (.bool (inB x lo hi)) /\ w' = w := by
  by_cases h1 : lo <= x
  . by_cases h2 : x <= hi
    . have e : Hid (inB x lo hi = true) := by show _ = _; simp [inB, h1, h2]
      go_enter Tryz.func25, Tryz.ntmps25
      go_wp2
      go_ret
      exact ⟨by rw [e.out]; rfl, rfl⟩
    . have e : Hid (inB x lo hi = false) := by show _ = _; simp [inB, h2]
      have h2' : decide (x <= hi) = false := decide_eq_false h2
      go_enter Tryz.func25, Tryz.ntmps25
      go_wp2
      go_ret
      exact ⟨by rw [e.out]; first | rfl | (rw [← h2']; rfl), rfl⟩
  . have e : Hid (inB x lo hi = false) := by show _ = _; simp [inB, h1]
    go_enter Tryz.func25, Tryz.ntmps25
    go_wp2
    go_ret
    exact ⟨by rw [e.out]; rfl, rfl⟩
end Go.Proofs.YtanihpmgoeadkaaGreat.Gen

/-
  Which disks are right, by the specification and by the program. No condition but that the length is one that a list can have.
-/
namespace Go.Proofs.YtanihpmgoeadkaaGreat.Gen
open Go.ChangeShapes Go.WideShapes Go.ChangeAt Go.RowKit Go.Joins Go.Deep Base
set_option linter.unusedVariables false
def diskB (su : Int) (n : Nat) : Bool := decide (n <= 80000) && inB su 0 (n : Int)
theorem specDiskOk_any (su : Int) (A : Option Addr) (n cap : Nat) (hn : n <= 9223372036854775807) (w : World) :
    Calls Tryz.prog 30 #[.agg #[.slice A n cap, .int .i64 su]] w fun e w' => e = .returned (.bool (diskB su n)) /\ Below w.heap.size w w' := by
  have e : diskB su n = (decide ((n : Int) <= 80000) && inB su 0 (n : Int)) := by
    unfold diskB; congr 1; simp; omega
  rw [e]
  clear e
  by_cases h : (n : Int) <= 80000
  all_goals
    go_enter Tryz.func30, Tryz.ntmps30
    go_wp2_with (go_at_call 25; refine (in_any _ _ _ _).mono ?_; rintro e w' ⟨rfl, rfl⟩)
    go_ret
    exact ⟨by simp [h]<;>(intro h2; omega), by repeat (first | exact Below.refl _ _ | assumption | refine via0 (by assumption) ?_ | refine Below.drew ?_ | refine alloc0 ?_ _)⟩
theorem implDiskOk_any (su : Int) (A : Option Addr) (n cap : Nat) (hn : n <= 9223372036854775807) (w : World) :
    Calls Tryz.prog 92 #[.agg #[.slice A n cap, .int .i64 su]] w fun e w' => e = .returned (.bool (diskB su n)) /\ Below w.heap.size w w' := by
  have e : diskB su n = (decide ((n : Int) <= 80000) && inB su 0 (n : Int)) := by
    unfold diskB; congr 1; simp; omega
  rw [e]
  clear e
  by_cases h : (n : Int) <= 80000
  all_goals
    go_enter Tryz.func92, Tryz.ntmps92
    go_wp2_with (go_at_call 88; refine (within_any _ _ _ _).mono ?_; rintro e w' ⟨rfl, rfl⟩)
    go_ret
    exact ⟨by simp [h]<;>(intro h2; omega), by repeat (first | exact Below.refl _ _ | assumption | refine via0 (by assumption) ?_ | refine Below.drew ?_ | refine alloc0 ?_ _)⟩
end Go.Proofs.YtanihpmgoeadkaaGreat.Gen

/-
  Lists of entries: how they lie, what the laws' to, sz, eq, mark and held functions of them do; the argument opened. No condition but that there are at most 1048576, and the length that every text has.
-/
namespace Go.Proofs.YtanihpmgoeadkaaGreat.Gen
open Go.ChangeShapes Go.WideShapes Go.ChangeAt Go.RowKit Go.Joins Go.Deep Base
set_option linter.unusedVariables false
structure En where
  term : Int
  who : Int
  seq : Int
  op : Int
  a : Int
  b : Int
  c : Int
  key : ByteArray
  text : ByteArray
instance : Inhabited En := ⟨⟨0, 0, 0, 0, 0, 0, 0, ⟨#[]⟩, ⟨#[]⟩⟩⟩
instance : Cel En where
  k := 9
  cs x := [.int .i64 x.term, .int .i64 x.who, .int .i64 x.seq, .int .i64 x.op, .int .i64 x.a, .int .i64 x.b, .int .i64 x.c, .string x.key, .string x.text]
  len _ := rfl
  one x u hu := by simp at hu; rcases hu with rfl | rfl | rfl | rfl | rfl | rfl | rfl | rfl | rfl<;>rfl
def En.fit (x : En) : Prop := x.key.size <= 9223372036854775807 /\ x.text.size <= 9223372036854775807
def En.right (x : En) : Prop := I64 x.term /\ I64 x.who /\ I64 x.seq /\ I64 x.op /\ I64 x.a /\ I64 x.b /\ I64 x.c /\ x.fit
theorem En.right.fit {x : En} (h : x.right) : x.fit := h.2.2.2.2.2.2.2
theorem In.getEn {w : World} {b o : Nat} {l : List En} (h : In w b o l) (n : Nat) (hi : n < l.length) :
    w.cell? ⟨b, o + n * 9, none⟩ = some (.int .i64 l[n].term) /\ w.cell? ⟨b, o + n * 9 + 1, none⟩ = some (.int .i64 l[n].who) /\ w.cell? ⟨b, o + n * 9 + 2, none⟩ = some (.int .i64 l[n].seq) /\ w.cell? ⟨b, o + n * 9 + 3, none⟩ = some (.int .i64 l[n].op) /\ w.cell? ⟨b, o + n * 9 + 4, none⟩ = some (.int .i64 l[n].a) /\ w.cell? ⟨b, o + n * 9 + 5, none⟩ = some (.int .i64 l[n].b) /\ w.cell? ⟨b, o + n * 9 + 6, none⟩ = some (.int .i64 l[n].c) /\ w.cell? ⟨b, o + n * 9 + 7, none⟩ = some (.string l[n].key) /\ w.cell? ⟨b, o + n * 9 + 8, none⟩ = some (.string l[n].text) :=
  ⟨h.cell n hi (f := 0) rfl, h.cell n hi (f := 1) rfl, h.cell n hi (f := 2) rfl, h.cell n hi (f := 3) rfl, h.cell n hi (f := 4) rfl, h.cell n hi (f := 5) rfl, h.cell n hi (f := 6) rfl, h.cell n hi (f := 7) rfl, h.cell n hi (f := 8) rfl⟩
theorem infoEn : (Tryz.prog.info? 129).map (fun i => (i.zero, i.size, i.bytes)) = some (some (.agg #[.int .i64 0, .int .i64 0, .int .i64 0, .int .i64 0, .int .i64 0, .int .i64 0, .int .i64 0, .string ⟨#[]⟩, .string ⟨#[]⟩]), 9, 88) := by kernel_rfl
def szEn (x : En) : Nat := x.key.size + x.text.size
theorem szCmd_at (who seq op a b c : Int) (key text : ByteArray) (hk : key.size <= 9223372036854775807) (ht : text.size <= 9223372036854775807) (left : Int) (h0 : 0 <= left) (h1 : left <= 1048576) (w : World) :
    Calls Tryz.prog 166 #[.agg #[.int .i64 who, .int .i64 seq, .int .i64 op, .int .i64 a, .int .i64 b, .int .i64 c, .string key, .string text], .int .i64 left] w fun e w' => (∃ r : Int, e = .returned (.int .i64 r) /\ (r = -1 ∨ (0 <= r /\ r = left - (key.size : Int) - (text.size : Int)))) /\ Below w.heap.size w w' := by
  by_cases g1 : left - (key.size : Int) < 0
  . go_enter Tryz.func166, Tryz.ntmps166
    go_wp2
    go_ret
    exact ⟨⟨-1, rfl, .inl rfl⟩, by repeat (first | exact Below.refl _ _ | assumption | refine via0 (by assumption) ?_ | refine Below.drew ?_ | refine alloc0 ?_ _)⟩
  . by_cases g2 : left - (key.size : Int) - (text.size : Int) < 0
    . go_enter Tryz.func166, Tryz.ntmps166
      go_wp2
      go_ret
      exact ⟨⟨-1, rfl, .inl rfl⟩, by repeat (first | exact Below.refl _ _ | assumption | refine via0 (by assumption) ?_ | refine Below.drew ?_ | refine alloc0 ?_ _)⟩
    . go_enter Tryz.func166, Tryz.ntmps166
      go_wp2
      go_ret
      exact ⟨⟨_, rfl, .inr ⟨by omega, rfl⟩⟩, by repeat (first | exact Below.refl _ _ | assumption | refine via0 (by assumption) ?_ | refine Below.drew ?_ | refine alloc0 ?_ _)⟩
theorem szEntry_any (term who seq op a b c : Int) (key text : ByteArray) (hk : key.size <= 9223372036854775807) (ht : text.size <= 9223372036854775807) (left : Int) (h0 : 0 <= left) (h1 : left <= 1048576) (w : World) :
    Calls Tryz.prog 100 #[.agg #[.int .i64 term, .int .i64 who, .int .i64 seq, .int .i64 op, .int .i64 a, .int .i64 b, .int .i64 c, .string key, .string text], .int .i64 left] w fun e w' => (∃ r : Int, e = .returned (.int .i64 r) /\ (r = -1 ∨ (0 <= r /\ r = left - (key.size : Int) - (text.size : Int)))) /\ Below w.heap.size w w' := by
  go_enter Tryz.func100, Tryz.ntmps100
  go_wp2_with fail
  refine (szCmd_at _ _ _ _ _ _ _ _ hk ht left h0 h1 _).mono ?_
  rintro e w1 ⟨⟨r, rfl, hr⟩, g1⟩
  rcases hr with rfl | ⟨hr0, hr1⟩
  . go_wp2
    go_ret
    exact ⟨⟨-1, rfl, .inl rfl⟩, by repeat (first | exact Below.refl _ _ | assumption | refine via0 (by assumption) ?_ | refine Below.drew ?_ | refine alloc0 ?_ _)⟩
  . have hp : ¬ r < 0 := by omega
    have HR := hidP hr1
    clear hr1
    go_wp2
    go_ret
    exact ⟨⟨r, rfl, .inr ⟨hr0, HR.out⟩⟩, by repeat (first | exact Below.refl _ _ | assumption | refine via0 (by assumption) ?_ | refine Below.drew ?_ | refine alloc0 ?_ _)⟩
set_option maxRecDepth 100000 in
set_option maxHeartbeats 1000000 in
theorem szEntryS_any (A : Option Addr) (cap : Nat) (l : List En) (hl : l.length <= 9223372036854775807) (hr : ∀ x ∈ l, x.fit) (left : Int) (h0 : 0 <= left) (h1 : left <= 1048576) (w : World) (hA : At w A l) :
    Calls Tryz.prog 45 #[.slice A l.length cap, .int .i64 left] w fun e w' => (∃ r : Int, e = .returned (.int .i64 r) /\ (r < 0 ∨ (0 <= r /\ r = left - (l.length : Int) - (count szEn l : Int)))) /\ Below w.heap.size w w' := by
  have HA := hidP hA
  have Hr := hidP hr
  clear hA hr
  by_cases h : left < (l.length : Int)
  . have g : left - (l.length : Int) < 0 := by omega
    go_enter Tryz.func45, Tryz.ntmps45
    go_wp2
    go_ret
    exact ⟨⟨-1, rfl, .inl (by omega)⟩, Below.refl _ _⟩
  . have g : ¬ left - (l.length : Int) < 0 := by omega
    go_enter Tryz.func45, Tryz.ntmps45
    go_wp2
    go_loopw [1, 5] (fun q i w' => ∃ (n : Nat) (z : Int), i = .int .i64 (n : Int) /\ q = .int .i64 z /\ n <= l.length /\ 0 <= z /\ z <= 1048576 /\ Hid (z = left - (l.length : Int) - (count szEn (l.take n) : Int)) /\ Below w.heap.size w w') (fun _ i _ => l.length - (intOf i).toNat)
    case atStart => exact ⟨0, _, rfl, rfl, by omega, by omega, by omega, by simp [Hid, count], Below.refl _ _⟩
    case round =>
      obtain ⟨n, z, rfl, rfl, hn, hz0, hz1, hz, hbl⟩ := hrel
      by_cases hlt : n < l.length
      . obtain ⟨b, o, rfl, hbs, hIn⟩ : ∃ b o, A = some ⟨b, o, none⟩ /\ b < w.heap.size /\ In w b o l := by
          rcases HA.out with h | h
          . subst h; simp at hlt
          . exact h
        obtain ⟨c0, c1, c2, c3, c4, c5, c6, c7, c8⟩ := (hIn.below hbs hbl).getEn n hlt
        have hms := Hr.out _ (List.getElem_mem hlt)
        have hsn := hidP (count_snoc szEn l n hlt)
        go_wp2_with fail
        refine (szEntry_any _ _ _ _ _ _ _ _ _ hms.1 hms.2 z hz0 hz1 _).mono ?_
        rintro e w1 ⟨⟨r, rfl, hr⟩, g1⟩
        rcases hr with rfl | ⟨hr0, hr1⟩
        . go_wp2
          go_ret
          exact ⟨⟨-1, rfl, .inl (by omega)⟩, via0 g1 hbl⟩
        . have hp : ¬ r < 0 := by omega
          have HR1 := hidP hr1
          clear hr1
          go_wp2
          have hz' := hz.out
          have hsn' := hsn.out
          have hr' := HR1.out
          exact ⟨⟨n + 1, r, by go_num, rfl, by omega, by omega, by omega, by show _ = _; rw [hsn', hr', hz']; simp only [szEn]; omega, via0 g1 hbl⟩, by simp [intOf]; omega⟩
      . have e : l.take n = l := List.take_of_length_le (by omega)
        go_wp2
        go_ret
        have hz' := hz.out
        rw [e] at hz'
        exact ⟨⟨z, rfl, .inr ⟨hz0, hz'⟩⟩, hbl⟩
set_option maxRecDepth 100000 in
set_option maxHeartbeats 1000000 in
theorem toEntry_any (term who seq op a b c : Int) (key text : ByteArray) (w : World) :
    Calls Tryz.prog 105 #[.agg #[.int .i64 term, .int .i64 who, .int .i64 seq, .int .i64 op, .int .i64 a, .int .i64 b, .int .i64 c, .string key, .string text]] w fun e w' => e = .returned (.agg #[.int .i64 term, .int .i64 who, .int .i64 seq, .int .i64 op, .int .i64 a, .int .i64 b, .int .i64 c, .string key, .string text]) /\ Below w.heap.size w w' := by
  go_enter Tryz.func105, Tryz.ntmps105
  go_wp2_with fail
  refine (Cmd.to_any _ _ _ _ _ _ _ _ _).mono ?_
  rintro e w1 ⟨rfl, g1⟩
  have p : Blk w1 (w.heap.size + 1) 129 #[.int .i64 0, .int .i64 0, .int .i64 0, .int .i64 0, .int .i64 0, .int .i64 0, .int .i64 0, .string ⟨#[]⟩, .string ⟨#[]⟩] := by
    have := ((Blk.new (w.alloc (.cells #[.int .i64 term, .int .i64 who, .int .i64 seq, .int .i64 op, .int .i64 a, .int .i64 b, .int .i64 c, .string key, .string text] 163)) 129 #[.int .i64 0, .int .i64 0, .int .i64 0, .int .i64 0, .int .i64 0, .int .i64 0, .int .i64 0, .string ⟨#[]⟩, .string ⟨#[]⟩]).alloc (.cells #[.int .i64 term, .int .i64 0, .int .i64 0, .int .i64 0, .int .i64 0, .int .i64 0, .int .i64 0, .string ⟨#[]⟩, .string ⟨#[]⟩] 129)).below g1 (by simp)
    simpa using this
  have q : Blk w1 (w.heap.size + 1 + 1) 129 #[.int .i64 term, .int .i64 0, .int .i64 0, .int .i64 0, .int .i64 0, .int .i64 0, .int .i64 0, .string ⟨#[]⟩, .string ⟨#[]⟩] := by
    have := (Blk.new ((w.alloc (.cells #[.int .i64 term, .int .i64 who, .int .i64 seq, .int .i64 op, .int .i64 a, .int .i64 b, .int .i64 c, .string key, .string text] 163)).alloc (.cells #[.int .i64 0, .int .i64 0, .int .i64 0, .int .i64 0, .int .i64 0, .int .i64 0, .int .i64 0, .string ⟨#[]⟩, .string ⟨#[]⟩] 129)) 129 #[.int .i64 term, .int .i64 0, .int .i64 0, .int .i64 0, .int .i64 0, .int .i64 0, .int .i64 0, .string ⟨#[]⟩, .string ⟨#[]⟩]).below g1 (by simp)
    simpa using this
  have x0 := p.cell (i := 0) rfl
  have x1 := p.cell (i := 1) rfl
  have x2 := p.cell (i := 2) rfl
  have x3 := p.cell (i := 3) rfl
  have x4 := p.cell (i := 4) rfl
  have x5 := p.cell (i := 5) rfl
  have x6 := p.cell (i := 6) rfl
  have x7 := p.cell (i := 7) rfl
  have x8 := p.cell (i := 8) rfl
  have y0 := q.cell (i := 0) rfl
  have y1 := q.cell (i := 1) rfl
  have y2 := q.cell (i := 2) rfl
  have y3 := q.cell (i := 3) rfl
  have y4 := q.cell (i := 4) rfl
  have y5 := q.cell (i := 5) rfl
  have y6 := q.cell (i := 6) rfl
  have y7 := q.cell (i := 7) rfl
  have y8 := q.cell (i := 8) rfl
  have fp := fun i => p.thaw i
  have fq := fun i => q.thaw i
  have g2 : Below w.heap.size w w1 := via0 g1 (by repeat (first | exact Below.refl _ _ | assumption | refine via0 (by assumption) ?_ | refine Below.drew ?_ | refine alloc0 ?_ _))
  clear g1
  go_wp2
  refine bodyPost_ret (v := .agg #[.int .i64 term, .int .i64 who, .int .i64 seq, .int .i64 op, .int .i64 a, .int .i64 b, .int .i64 c, .string key, .string text]) (by simp [results, Tryz.results105, go_sem, *]) rfl ⟨rfl, ?_⟩
  repeat (first | with_reducible exact g2 | refine bl_set ?_ (by omega) _)
set_option maxRecDepth 100000 in
set_option maxHeartbeats 1000000 in
theorem toEntryS_any (A : Option Addr) (cap : Nat) (l : List En) (hl : l.length <= 1048576) (w : World) (hA : At w A l) :
    Calls Tryz.prog 48 #[.slice A l.length cap] w fun e w' => e = .returned (.slice (some ⟨w.heap.size, 0, none⟩) l.length l.length) /\ Below w.heap.size w w' /\ w.heap.size < w'.heap.size /\ In w' w.heap.size 0 l /\ w'.there w.heap.size 0 (l.length * 9) := by
  have HA := hidP hA
  clear hA
  have hmk := make_els (P := Tryz.prog) Tryz.underlying47 infoEn (by omega) l.length hl
  go_enter Tryz.func48, Tryz.ntmps48
  go_wp2
  go_loopw [4] (fun i w' => ∃ (n : Nat), i = .int .i64 (n : Int) /\ n <= l.length /\ Below w.heap.size w w' /\ w.heap.size < w'.heap.size /\ Hid (In w' w.heap.size 0 (l.take n)) /\ Hid (w'.there w.heap.size 0 (l.length * 9))) (fun i _ => l.length - (intOf i).toNat)
  case atStart => exact ⟨0, rfl, by omega, by repeat (first | exact Below.refl _ _ | assumption | refine via0 (by assumption) ?_ | refine Below.drew ?_ | refine alloc0 ?_ _), by simp, In.nil _ _ _, made_there w _ _ _ _⟩
  case round =>
    obtain ⟨n, rfl, hn, hbl, hsz, hin, hth⟩ := hrel
    by_cases hlt : n < l.length
    . obtain ⟨b, o, rfl, hbs, hIn⟩ : ∃ b o, A = some ⟨b, o, none⟩ /\ b < w.heap.size /\ In w b o l := by
        rcases HA.out with h | h
        . subst h; simp at hlt
        . exact h
      obtain ⟨c0, c1, c2, c3, c4, c5, c6, c7, c8⟩ := (hIn.below hbs hbl).getEn n hlt
      obtain ⟨⟨v0, d0⟩, f0⟩ := there_at (f := 0) hth.out hlt (by omega)
      obtain ⟨⟨v1, d1⟩, f1⟩ := there_at (f := 1) hth.out hlt (by omega)
      obtain ⟨⟨v2, d2⟩, f2⟩ := there_at (f := 2) hth.out hlt (by omega)
      obtain ⟨⟨v3, d3⟩, f3⟩ := there_at (f := 3) hth.out hlt (by omega)
      obtain ⟨⟨v4, d4⟩, f4⟩ := there_at (f := 4) hth.out hlt (by omega)
      obtain ⟨⟨v5, d5⟩, f5⟩ := there_at (f := 5) hth.out hlt (by omega)
      obtain ⟨⟨v6, d6⟩, f6⟩ := there_at (f := 6) hth.out hlt (by omega)
      obtain ⟨⟨v7, d7⟩, f7⟩ := there_at (f := 7) hth.out hlt (by omega)
      obtain ⟨⟨v8, d8⟩, f8⟩ := there_at (f := 8) hth.out hlt (by omega)
      simp only [Nat.zero_add, Nat.add_zero] at d0 f0 d1 f1 d2 f2 d3 f3 d4 f4 d5 f5 d6 f6 d7 f7 d8 f8
      go_wp2_with (go_at_call 105; refine (toEntry_any _ _ _ _ _ _ _ _ _ _).mono ?_; rintro e w1 ⟨rfl, g1⟩; obtain ⟨k1, m1⟩ := bcell g1; have s1 := g1.size)
      have hst := store_el (hin.out.below hsz g1) (there_below hth.out hsz g1) hlt
      refine ⟨⟨n + 1, by go_num, by omega, ?_, by simp; omega, hst.1, hst.2⟩, by simp [intOf]; omega⟩
      exact (((((((((via0 g1 hbl).setCell (Nat.le_refl _) _).setCell (Nat.le_refl _) _).setCell (Nat.le_refl _) _).setCell (Nat.le_refl _) _).setCell (Nat.le_refl _) _).setCell (Nat.le_refl _) _).setCell (Nat.le_refl _) _).setCell (Nat.le_refl _) _).setCell (Nat.le_refl _) _
    . have e : l.take n = l := List.take_of_length_le (by omega)
      go_wp2
      go_ret
      exact ⟨rfl, hbl, hsz, by have := hin.out; rwa [e] at this, hth.out⟩
theorem eqCmd_same (who seq op a b c : Int) (key text : ByteArray) (w : World) :
    Calls Tryz.prog 179 #[.agg #[.int .i64 who, .int .i64 seq, .int .i64 op, .int .i64 a, .int .i64 b, .int .i64 c, .string key, .string text], .agg #[.int .i64 who, .int .i64 seq, .int .i64 op, .int .i64 a, .int .i64 b, .int .i64 c, .string key, .string text]] w fun e w' => e = .returned (.bool true) /\ Below w.heap.size w w' := by
  go_enter Tryz.func179, Tryz.ntmps179
  go_wp2
  go_ret
  exact ⟨rfl, by repeat (first | exact Below.refl _ _ | assumption | refine via0 (by assumption) ?_ | refine Below.drew ?_ | refine alloc0 ?_ _)⟩
theorem eqEntry_same (term who seq op a b c : Int) (key text : ByteArray) (w : World) :
    Calls Tryz.prog 113 #[.agg #[.int .i64 term, .int .i64 who, .int .i64 seq, .int .i64 op, .int .i64 a, .int .i64 b, .int .i64 c, .string key, .string text], .agg #[.int .i64 term, .int .i64 who, .int .i64 seq, .int .i64 op, .int .i64 a, .int .i64 b, .int .i64 c, .string key, .string text]] w fun e w' => e = .returned (.bool true) /\ Below w.heap.size w w' := by
  go_enter Tryz.func113, Tryz.ntmps113
  go_wp2_with (go_at_call 179; refine (eqCmd_same _ _ _ _ _ _ _ _ _).mono ?_; rintro e w1 ⟨rfl, g1⟩)
  go_ret
  exact ⟨rfl, by repeat (first | exact Below.refl _ _ | assumption | refine via0 (by assumption) ?_ | refine Below.drew ?_ | refine alloc0 ?_ _)⟩
set_option maxRecDepth 100000 in
set_option maxHeartbeats 1000000 in
theorem eqEntryS_same (A A' : Option Addr) (cap cap' : Nat) (l : List En) (hl : l.length <= 9223372036854775807) (w : World) (hA : At w A l) (hA' : At w A' l) :
    Calls Tryz.prog 52 #[.slice A l.length cap, .slice A' l.length cap'] w fun e w' => e = .returned (.bool true) /\ Below w.heap.size w w' := by
  have HA := hidP hA
  have HA' := hidP hA'
  clear hA hA'
  go_enter Tryz.func52, Tryz.ntmps52
  go_wp2
  go_loopw [5] (fun i w' => ∃ (n : Nat), i = .int .i64 (n : Int) /\ n <= l.length /\ Below w.heap.size w w') (fun i _ => l.length - (intOf i).toNat)
  case atStart => exact ⟨0, rfl, by omega, Below.refl _ _⟩
  case round =>
    obtain ⟨n, rfl, hn, hbl⟩ := hrel
    by_cases hlt : n < l.length
    . obtain ⟨b, o, rfl, hbs, hin⟩ : ∃ b o, A = some ⟨b, o, none⟩ /\ b < w.heap.size /\ In w b o l := by
        rcases HA.out with h | h
        . subst h; simp at hlt
        . exact h
      obtain ⟨b', o', rfl, hbs', hin'⟩ : ∃ b o, A' = some ⟨b, o, none⟩ /\ b < w.heap.size /\ In w b o l := by
        rcases HA'.out with h | h
        . subst h; simp at hlt
        . exact h
      obtain ⟨c0, c1, c2, c3, c4, c5, c6, c7, c8⟩ := (hin.below hbs hbl).getEn n hlt
      obtain ⟨d0, d1, d2, d3, d4, d5, d6, d7, d8⟩ := (hin'.below hbs' hbl).getEn n hlt
      have hb1 : b < wr.heap.size := Nat.lt_of_lt_of_le hbs hbl.size
      have hb2 : b' < wr.heap.size := Nat.lt_of_lt_of_le hbs' hbl.size
      have hi0 : (0 : Int) <= (n : Int) := by omega
      have hi1 : (n : Int) < (l.length : Int) := by omega
      go_wp2
      go_region_held3 (fun w' => w'.cell? ⟨b, o + n * 9, none⟩ = some (.int .i64 l[n].term) /\ w'.cell? ⟨b, o + n * 9 + 1, none⟩ = some (.int .i64 l[n].who) /\ w'.cell? ⟨b, o + n * 9 + 2, none⟩ = some (.int .i64 l[n].seq) /\ w'.cell? ⟨b, o + n * 9 + 3, none⟩ = some (.int .i64 l[n].op) /\ w'.cell? ⟨b, o + n * 9 + 4, none⟩ = some (.int .i64 l[n].a) /\ w'.cell? ⟨b, o + n * 9 + 5, none⟩ = some (.int .i64 l[n].b) /\ w'.cell? ⟨b, o + n * 9 + 6, none⟩ = some (.int .i64 l[n].c) /\ w'.cell? ⟨b, o + n * 9 + 7, none⟩ = some (.string l[n].key) /\ w'.cell? ⟨b, o + n * 9 + 8, none⟩ = some (.string l[n].text) /\ w'.cell? ⟨b', o' + n * 9, none⟩ = some (.int .i64 l[n].term) /\ w'.cell? ⟨b', o' + n * 9 + 1, none⟩ = some (.int .i64 l[n].who) /\ w'.cell? ⟨b', o' + n * 9 + 2, none⟩ = some (.int .i64 l[n].seq) /\ w'.cell? ⟨b', o' + n * 9 + 3, none⟩ = some (.int .i64 l[n].op) /\ w'.cell? ⟨b', o' + n * 9 + 4, none⟩ = some (.int .i64 l[n].a) /\ w'.cell? ⟨b', o' + n * 9 + 5, none⟩ = some (.int .i64 l[n].b) /\ w'.cell? ⟨b', o' + n * 9 + 6, none⟩ = some (.int .i64 l[n].c) /\ w'.cell? ⟨b', o' + n * 9 + 7, none⟩ = some (.string l[n].key) /\ w'.cell? ⟨b', o' + n * 9 + 8, none⟩ = some (.string l[n].text) /\ wr.heap.size <= w'.heap.size)
        (first | (go_split_ands; refine ⟨?_, ?_, ?_, ?_, ?_, ?_, ?_, ?_, ?_, ?_, ?_, ?_, ?_, ?_, ?_, ?_, ?_, ?_, ?_⟩<;>first | assumption | exact (k1 _ _ hb1).trans (by assumption) | exact (k1 _ _ hb2).trans (by assumption) | exact s1 | (simp; done)) | go_keep)
        (first
          | (go_at_call 113; refine (eqEntry_same _ _ _ _ _ _ _ _ _ _).mono ?_; rintro e w1 ⟨rfl, g1⟩; obtain ⟨k1, m1⟩ := bcell g1; have s1 := g1.size))
      all_goals
        go_wp2
        exact ⟨⟨n + 1, by go_num, by omega, via0 g1 hbl.drew⟩, by simp [intOf]; omega⟩
    . go_wp2
      go_ret
      exact ⟨rfl, hbl⟩
set_option maxRecDepth 100000 in
theorem openEn {H : Type} {enc : TypeId × Value -> H} {w : World} {base n : Nat} {spare : Nat -> Bool} {held : Bool} {a : Addr} {cs : List Value} {y : DataW H × List MemPlace}
    (h1 : w.cells? base a 9 = some cs) (h2 : DataW.trod enc Tryz.prog w base spare held n 163 cs = some y) :
    ∃ x : En, x.right /\ a.spot = none /\ a.block < w.heap.size /\ ∀ j v, (Cel.cs x)[j]? = some v -> w.cell? ⟨a.block, a.off + j, none⟩ = some v := by
  obtain ⟨_, hlen, hc⟩ := World.cells?_some h1
  match cs, hlen with
  | [c0, c1, c2, c3, c4, c5, c6, c7, c8], _ =>
    obtain ⟨y0, y1, m', _, _, t0, t1⟩ := trod_struct2 Tryz.underlying163 h2
    have g0 : DataW.trod enc Tryz.prog w base spare held m' 3 [c0] = some y0 := t0
    have u1 : DataW.trod enc Tryz.prog w base spare held m' 161 [c1, c2, c3, c4, c5, c6, c7, c8] = some y1 := t1
    obtain ⟨m, hf⟩ := fields_at Tryz.underlying161 (by kernel_rfl) u1
    obtain ⟨z1, g1⟩ := hf 0 _ rfl _ rfl
    obtain ⟨z2, g2⟩ := hf 1 _ rfl _ rfl
    obtain ⟨z3, g3⟩ := hf 2 _ rfl _ rfl
    obtain ⟨z4, g4⟩ := hf 3 _ rfl _ rfl
    obtain ⟨z5, g5⟩ := hf 4 _ rfl _ rfl
    obtain ⟨z6, g6⟩ := hf 5 _ rfl _ rfl
    obtain ⟨z7, g7⟩ := hf 6 _ rfl _ rfl
    obtain ⟨z8, g8⟩ := hf 7 _ rfl _ rfl
    obtain ⟨v0, e0, _, w0⟩ := DataW.trod_int Tryz.underlying3 g0
    obtain ⟨v1, e1, _, w1⟩ := DataW.trod_int Tryz.underlying3 g1
    obtain ⟨v2, e2, _, w2⟩ := DataW.trod_int Tryz.underlying3 g2
    obtain ⟨v3, e3, _, w3⟩ := DataW.trod_int Tryz.underlying3 g3
    obtain ⟨v4, e4, _, w4⟩ := DataW.trod_int Tryz.underlying3 g4
    obtain ⟨v5, e5, _, w5⟩ := DataW.trod_int Tryz.underlying3 g5
    obtain ⟨v6, e6, _, w6⟩ := DataW.trod_int Tryz.underlying3 g6
    obtain ⟨v7, e7, _, w7⟩ := DataW.trod_string Tryz.underlying9 g7
    obtain ⟨v8, e8, _, w8⟩ := DataW.trod_string Tryz.underlying9 g8
    simp at e0 e1 e2 e3 e4 e5 e6 e7 e8
    subst e0 e1 e2 e3 e4 e5 e6 e7 e8
    have q0 := hc 0 (by omega)
    have hsp : a.spot = none := by
      cases hs : a.spot with
      | none => rfl
      | some s => exfalso; simp [Addr.add, World.cell?, hs] at q0; split at q0<;>simp at q0
    have hlt : a.block < w.heap.size := by
      rw [show a.add 0 = a from rfl] at q0
      unfold World.cell? at q0
      cases hh : w.heap[a.block]? with
      | none => simp [hh] at q0
      | some ob => exact (Array.getElem?_eq_some_iff.1 hh).1
    refine ⟨⟨v0, v1, v2, v3, v4, v5, v6, v7, v8⟩, ⟨i64_of w0, i64_of w1, i64_of w2, i64_of w3, i64_of w4, i64_of w5, i64_of w6, by simpa [maxLen] using w7, by simpa [maxLen] using w8⟩, hsp, hlt, ?_⟩
    intro j v hv
    have hj : j < 9 := (List.getElem?_eq_some_iff.1 hv).1
    have q := hc j hj
    have e : a.add j = ⟨a.block, a.off + j, none⟩ := by
      obtain ⟨b, o, s⟩ := a
      simp only at hsp
      subst hsp
      exact Addr.add_mid b o j
    rw [e] at q
    rw [q]
    exact hv
theorem cellsEnL : Tryz.prog.cellsOf 163 = 9 := by kernel_rfl
set_option maxRecDepth 100000 in
theorem openEntryS {H : Type} {enc : TypeId × Value -> H} {W : World} {base n : Nat} {spare : Nat -> Bool} {held : Bool} {c : Value} {y : DataW H × List MemPlace}
    (g : DataW.trod enc Tryz.prog W base spare held n 24 [c] = some y) :
    ∃ (A : Option Addr) (cap : Nat) (l : List En), c = .slice A l.length cap /\ l.length <= 9223372036854775807 /\ (∀ x ∈ l, x.right) /\ At W A l := by
  rcases open_slice Tryz.underlying24 g with ⟨e2, _⟩ | ⟨a, len, cap, m, n', D, Pl, e2, _, hl, hm, hmm, _, hx⟩
  . simp at e2
    subst e2
    exact ⟨none, 0, [], rfl, by simp, by simp, .inl rfl⟩
  . simp at e2
    subst e2
    have hle : len <= m := by rw [hmm]; split<;>omega
    rw [cellsEnL] at hx
    obtain ⟨X, hX⟩ := choose_lt (α := En) (p := fun i x => x.right /\ (a.add (i * 9)).spot = none /\ (a.add (i * 9)).block < W.heap.size /\ ∀ j v, (Cel.cs x)[j]? = some v -> W.cell? ⟨(a.add (i * 9)).block, (a.add (i * 9)).off + j, none⟩ = some v)
      (n := len) (fun i hi => by obtain ⟨cs', h1, h2⟩ := hx i (by omega); exact openEn h1 h2)
    obtain ⟨l, rfl, hR, hat⟩ := at_of (α := En) (by decide) (R := En.right) hX
    exact ⟨some a, cap, l, rfl, by simp [maxLen] at hm ⊢; omega, hR, hat⟩
end Go.Proofs.YtanihpmgoeadkaaGreat.Gen

/-
  Group: what the laws' to, sz, eq, mark and held functions of it do; the argument opened. No condition but that its lists have at most 1048576 numbers.
-/
namespace Go.Proofs.YtanihpmgoeadkaaGreat.Gen
open Go.ChangeShapes Go.WideShapes Go.ChangeAt Go.RowKit Go.Joins Go.Deep Base
set_option linter.unusedVariables false
set_option maxRecDepth 100000 in
theorem szGroup_any (gen : Int) (A B C : Option Addr) (nm nb no ca cb cc : Nat) (hm : nm <= 9223372036854775807) (hb : nb <= 9223372036854775807) (ho : no <= 9223372036854775807) (left : Int) (h0 : 0 <= left) (h1 : left <= 1048576) (w : World) :
    Calls Tryz.prog 130 #[.agg #[.int .i64 gen, .slice A nm ca, .slice B nb cb, .slice C no cc], .int .i64 left] w fun e w' => e = .returned (.int .i64 (if left < (nm + nb + no : Nat) then -1 else left - (nm + nb + no : Nat))) /\ Below w.heap.size w w' := by
  generalize hans : (if left < ((nm + nb + no : Nat) : Int) then (-1 : Int) else left - ((nm + nb + no : Nat) : Int)) = ans
  have Hans := hidP hans
  clear hans
  go_enter Tryz.func130, Tryz.ntmps130
  go_wp2_with fail
  refine (szInt_any A nm ca hm left h0 h1 _).mono ?_
  by_cases k1 : left < nm
  . rw [if_pos k1]
    rintro e w1 ⟨rfl, rfl⟩
    have e : ans = -1 := by rw [← Hans.out, if_pos (by omega)]
    subst e
    go_wp2
    go_ret
    exact ⟨rfl, by repeat (first | exact Below.refl _ _ | assumption | refine via0 (by assumption) ?_ | refine Below.drew ?_ | refine alloc0 ?_ _)⟩
  rw [if_neg k1]
  rintro e w1 ⟨rfl, rfl⟩
  have k1' : ¬ left - (nm : Int) < 0 := by omega
  go_wp2_with fail
  refine (szInt_any B nb cb hb (left - nm) (by omega) (by omega) _).mono ?_
  by_cases k2 : left - nm < nb
  . rw [if_pos k2]
    rintro e w1 ⟨rfl, rfl⟩
    have e : ans = -1 := by rw [← Hans.out, if_pos (by omega)]
    subst e
    go_wp2
    go_ret
    exact ⟨rfl, by repeat (first | exact Below.refl _ _ | assumption | refine via0 (by assumption) ?_ | refine Below.drew ?_ | refine alloc0 ?_ _)⟩
  rw [if_neg k2]
  rintro e w1 ⟨rfl, rfl⟩
  have k2' : ¬ left - (nm : Int) - (nb : Int) < 0 := by omega
  go_wp2_with fail
  refine (szInt_any C no cc ho (left - nm - nb) (by omega) (by omega) _).mono ?_
  by_cases k3 : left - nm - nb < no
  . rw [if_pos k3]
    rintro e w1 ⟨rfl, rfl⟩
    have e : ans = -1 := by rw [← Hans.out, if_pos (by omega)]
    subst e
    go_wp2
    go_ret
    exact ⟨rfl, by repeat (first | exact Below.refl _ _ | assumption | refine via0 (by assumption) ?_ | refine Below.drew ?_ | refine alloc0 ?_ _)⟩
  rw [if_neg k3]
  rintro e w1 ⟨rfl, rfl⟩
  have k3' : ¬ left - (nm : Int) - (nb : Int) - (no : Int) < 0 := by omega
  have e : ans = left - (nm : Int) - (nb : Int) - (no : Int) := by rw [← Hans.out, if_neg (by omega)]; omega
  subst e
  go_wp2
  go_ret
  exact ⟨rfl, by repeat (first | exact Below.refl _ _ | assumption | refine via0 (by assumption) ?_ | refine Below.drew ?_ | refine alloc0 ?_ _)⟩
structure Three (n : Nat) (w : World) (x y z : Nat) (m b o : List Int) : Prop where
  nx : n <= x
  xy : x < y
  yz : y < z
  zs : z < w.heap.size
  im : In w x 0 m
  ib : In w y 0 b
  io : In w z 0 o
  tm : w.there x 0 (m.length * 1)
  tb : w.there y 0 (b.length * 1)
  to : w.there z 0 (o.length * 1)
set_option maxRecDepth 100000 in
set_option maxHeartbeats 1000000 in
theorem toGroup_any (gen : Int) (A B C : Option Addr) (ca cb cc : Nat) (m b o : List Int) (hm : m.length <= 1048576) (hb : b.length <= 1048576) (ho : o.length <= 1048576) (w : World) (hA : At w A m) (hB : At w B b) (hC : At w C o) :
    Calls Tryz.prog 138 #[.agg #[.int .i64 gen, .slice A m.length ca, .slice B b.length cb, .slice C o.length cc]] w
      fun e w' => ∃ x y z, e = .returned (.agg #[.int .i64 gen, .slice (some ⟨x, 0, none⟩) m.length m.length, .slice (some ⟨y, 0, none⟩) b.length b.length, .slice (some ⟨z, 0, none⟩) o.length o.length]) /\ Below w.heap.size w w' /\ Three w.heap.size w' x y z m b o := by
  have HA := hidP hA
  have HB := hidP hB
  have HC := hidP hC
  clear hA hB hC
  go_enter Tryz.func138, Tryz.ntmps138
  go_wp2_with fail
  refine (toInt_any A ca m hm _ (HA.out.below (by repeat (first | exact Below.refl _ _ | assumption | refine via0 (by assumption) ?_ | refine Below.drew ?_ | refine alloc0 ?_ _)))).mono ?_
  rintro e w1 ⟨rfl, g1, s1, i1, t1⟩
  have B1 : Below w.heap.size w w1 := via0 g1 (by repeat (first | exact Below.refl _ _ | assumption | refine via0 (by assumption) ?_ | refine Below.drew ?_ | refine alloc0 ?_ _))
  have p0 : Blk w1 w.heap.size 189 #[.int .i64 gen, .slice A m.length ca, .slice B b.length cb, .slice C o.length cc] := (((Blk.new w 189 #[.int .i64 gen, .slice A m.length ca, .slice B b.length cb, .slice C o.length cc]).alloc _).alloc _).below g1 (by simp; omega)
  have p1 : Blk w1 (w.heap.size + 1) 139 #[.int .i64 0, .slice none 0 0, .slice none 0 0, .slice none 0 0] := by
    have := ((Blk.new (w.alloc (.cells #[.int .i64 gen, .slice A m.length ca, .slice B b.length cb, .slice C o.length cc] 189)) 139 #[.int .i64 0, .slice none 0 0, .slice none 0 0, .slice none 0 0]).alloc _).below g1 (by simp)
    simpa using this
  have p2 : Blk w1 (w.heap.size + 1 + 1) 139 #[.int .i64 gen, .slice none 0 0, .slice none 0 0, .slice none 0 0] := by
    have := (Blk.new ((w.alloc (.cells #[.int .i64 gen, .slice A m.length ca, .slice B b.length cb, .slice C o.length cc] 189)).alloc (.cells #[.int .i64 0, .slice none 0 0, .slice none 0 0, .slice none 0 0] 139)) 139 #[.int .i64 gen, .slice none 0 0, .slice none 0 0, .slice none 0 0]).below g1 (by simp)
    simpa using this
  simp only [World.size_alloc] at s1 i1 t1 ⊢
  clear g1
  obtain ⟨u0, u1, u2, u3⟩ := p0.row4
  obtain ⟨n0, n1, n2, n3⟩ := p2.row4
  have f0 := p2.thaw 0
  have f1 := p2.thaw 1
  have f2 := p2.thaw 2
  have f3 := p2.thaw 3
  have q0 := p0.lt
  have q2 := p2.lt
  go_wp2_with fail
  have B1' : Below w.heap.size w (w1.setCell ⟨w.heap.size + 1 + 1, 1, none⟩ (.slice (some ⟨w.heap.size + 1 + 1 + 1, 0, none⟩) m.length m.length)) := bl_set B1 (by omega) _
  refine (toInt_any B cb b hb _ (HB.out.below B1')).mono ?_
  rintro e w2 ⟨rfl, g2, s2, i2, t2⟩
  rw [World.size_setCell] at s2 i2 t2
  have B2 : Below w.heap.size w w2 := via0 g2 B1'
  have r0 : Blk w2 w.heap.size 189 #[.int .i64 gen, .slice A m.length ca, .slice B b.length cb, .slice C o.length cc] := (p0.other (by omega) _ _).below g2 (by rw [World.size_setCell]; omega)
  have r1 : Blk w2 (w.heap.size + 1) 139 #[.int .i64 0, .slice none 0 0, .slice none 0 0, .slice none 0 0] := (p1.other (by omega) _ _).below g2 (by rw [World.size_setCell]; omega)
  have r2 : Blk w2 (w.heap.size + 1 + 1) 139 #[.int .i64 gen, (.slice (some ⟨w.heap.size + 1 + 1 + 1, 0, none⟩) m.length m.length), .slice none 0 0, .slice none 0 0] := (p2.setAt 1 (.slice (some ⟨w.heap.size + 1 + 1 + 1, 0, none⟩) m.length m.length)).below g2 (by rw [World.size_setCell]; omega)
  have i1' := (i1.set ⟨w.heap.size + 1 + 1, 1, none⟩ (.slice (some ⟨w.heap.size + 1 + 1 + 1, 0, none⟩) m.length m.length) (by simp)).below (by rw [World.size_setCell]; omega) g2
  have t1' := there_below (there_set t1 (w.heap.size + 1 + 1) 1 (.slice (some ⟨w.heap.size + 1 + 1 + 1, 0, none⟩) m.length m.length)) (by rw [World.size_setCell]; omega) g2
  rw [World.size_setCell]
  clear u0 u1 u2 u3 n0 n1 n2 n3 f0 f1 f2 f3 q0 q2 p0 p1 p2 g2 B1 B1' i1 t1
  obtain ⟨u0, u1, u2, u3⟩ := r0.row4
  obtain ⟨n0, n1, n2, n3⟩ := r2.row4
  have f0 := r2.thaw 0
  have f1 := r2.thaw 1
  have f2 := r2.thaw 2
  have f3 := r2.thaw 3
  have q0 := r0.lt
  have q2 := r2.lt
  generalize hX2 : w1.heap.size = X2 at *
  go_wp2_with fail
  have B2' : Below w.heap.size w (w2.setCell ⟨w.heap.size + 1 + 1, 2, none⟩ (.slice (some ⟨X2, 0, none⟩) b.length b.length)) := bl_set B2 (by omega) _
  refine (toInt_any C cc o ho _ (HC.out.below B2')).mono ?_
  rintro e w3 ⟨rfl, g3, s3, i3, t3⟩
  rw [World.size_setCell] at s3 i3 t3
  have B3 : Below w.heap.size w w3 := via0 g3 B2'
  have z1 : Blk w3 (w.heap.size + 1) 139 #[.int .i64 0, .slice none 0 0, .slice none 0 0, .slice none 0 0] := (r1.other (by omega) _ _).below g3 (by rw [World.size_setCell]; omega)
  have z2 : Blk w3 (w.heap.size + 1 + 1) 139 #[.int .i64 gen, (.slice (some ⟨w.heap.size + 1 + 1 + 1, 0, none⟩) m.length m.length), (.slice (some ⟨X2, 0, none⟩) b.length b.length), .slice none 0 0] := (r2.setAt 2 (.slice (some ⟨X2, 0, none⟩) b.length b.length)).below g3 (by rw [World.size_setCell]; omega)
  have j1 := (i1'.set ⟨w.heap.size + 1 + 1, 2, none⟩ (.slice (some ⟨X2, 0, none⟩) b.length b.length) (by simp)).below (by rw [World.size_setCell]; omega) g3
  have k1 := there_below (there_set t1' (w.heap.size + 1 + 1) 2 (.slice (some ⟨X2, 0, none⟩) b.length b.length)) (by rw [World.size_setCell]; omega) g3
  have j2 := (i2.set ⟨w.heap.size + 1 + 1, 2, none⟩ (.slice (some ⟨X2, 0, none⟩) b.length b.length) (by simp; omega)).below (by rw [World.size_setCell]; omega) g3
  have k2 := there_below (there_set t2 (w.heap.size + 1 + 1) 2 (.slice (some ⟨X2, 0, none⟩) b.length b.length)) (by rw [World.size_setCell]; omega) g3
  rw [World.size_setCell]
  clear u0 u1 u2 u3 n0 n1 n2 n3 f0 f1 f2 f3 q0 q2 r0 r1 r2 g3 B2 B2' i1' t1' i2 t2
  obtain ⟨n0, n1, n2, n3⟩ := z2.row4
  obtain ⟨c0, c1, c2, c3⟩ := z1.row4
  have f0 := z2.thaw 0
  have f1 := z2.thaw 1
  have f2 := z2.thaw 2
  have f3 := z2.thaw 3
  have h0 := z1.thaw 0
  have h1 := z1.thaw 1
  have h2 := z1.thaw 2
  have h3 := z1.thaw 3
  have q1 := z1.lt
  have q2 := z2.lt
  generalize hX3 : w2.heap.size = X3 at *
  go_wp2
  refine bodyPost_ret (v := .agg #[.int .i64 gen, (.slice (some ⟨w.heap.size + 1 + 1 + 1, 0, none⟩) m.length m.length), (.slice (some ⟨X2, 0, none⟩) b.length b.length), (.slice (some ⟨X3, 0, none⟩) o.length o.length)]) (by simp [results, Tryz.results138, go_sem, c0, c1, c2, c3]) rfl ?_
  refine ⟨w.heap.size + 1 + 1 + 1, X2, X3, rfl, ?_, ?_⟩
  . exact bl_set (bl_set (bl_set (bl_set (bl_set B3 (by omega) _) (by omega) _) (by omega) _) (by omega) _) (by omega) _
  . refine ⟨by omega, by omega, by omega, by simp only [World.size_setCell]; omega, ?_, ?_, ?_, ?_, ?_, ?_⟩
    . exact In.set (In.set (In.set (In.set (In.set j1 _ _ (by simp)) _ _ (by simp)) _ _ (by simp)) _ _ (by simp)) _ _ (by simp)
    . exact In.set (In.set (In.set (In.set (In.set j2 _ _ (by simp; omega)) _ _ (by simp; omega)) _ _ (by simp; omega)) _ _ (by simp; omega)) _ _ (by simp; omega)
    . exact In.set (In.set (In.set (In.set (In.set i3 _ _ (by simp; omega)) _ _ (by simp; omega)) _ _ (by simp; omega)) _ _ (by simp; omega)) _ _ (by simp; omega)
    . exact there_set (there_set (there_set (there_set (there_set k1 _ _ _) _ _ _) _ _ _) _ _ _) _ _ _
    . exact there_set (there_set (there_set (there_set (there_set k2 _ _ _) _ _ _) _ _ _) _ _ _) _ _ _
    . exact there_set (there_set (there_set (there_set (there_set t3 _ _ _) _ _ _) _ _ _) _ _ _) _ _ _
set_option maxRecDepth 100000 in
theorem eqGroup_same (gen : Int) (A B C A' B' C' : Option Addr) (ca cb cc ca' cb' cc' : Nat) (m b o : List Int) (hm : m.length <= 9223372036854775807) (hb : b.length <= 9223372036854775807) (ho : o.length <= 9223372036854775807) (w : World)
    (hA : At w A m) (hB : At w B b) (hC : At w C o) (hA' : At w A' m) (hB' : At w B' b) (hC' : At w C' o) :
    Calls Tryz.prog 164 #[.agg #[.int .i64 gen, .slice A m.length ca, .slice B b.length cb, .slice C o.length cc], .agg #[.int .i64 gen, .slice A' m.length ca', .slice B' b.length cb', .slice C' o.length cc']] w fun e w' => e = .returned (.bool true) /\ Below w.heap.size w w' := by
  have HA := hidP hA
  have HB := hidP hB
  have HC := hidP hC
  have HA' := hidP hA'
  have HB' := hidP hB'
  have HC' := hidP hC'
  clear hA hB hC hA' hB' hC'
  go_enter Tryz.func164, Tryz.ntmps164
  go_wp2_with fail
  have B0 : Below w.heap.size w ((w.alloc (.cells #[.int .i64 gen, .slice A m.length ca, .slice B b.length cb, .slice C o.length cc] 139)).alloc (.cells #[.int .i64 gen, .slice A' m.length ca', .slice B' b.length cb', .slice C' o.length cc'] 139)) := by repeat (first | exact Below.refl _ _ | assumption | refine via0 (by assumption) ?_ | refine Below.drew ?_ | refine alloc0 ?_ _)
  have p0 : Blk ((w.alloc (.cells #[.int .i64 gen, .slice A m.length ca, .slice B b.length cb, .slice C o.length cc] 139)).alloc (.cells #[.int .i64 gen, .slice A' m.length ca', .slice B' b.length cb', .slice C' o.length cc'] 139)) w.heap.size 139 #[.int .i64 gen, .slice A m.length ca, .slice B b.length cb, .slice C o.length cc] := (Blk.new w 139 #[.int .i64 gen, .slice A m.length ca, .slice B b.length cb, .slice C o.length cc]).alloc _
  have p1 : Blk ((w.alloc (.cells #[.int .i64 gen, .slice A m.length ca, .slice B b.length cb, .slice C o.length cc] 139)).alloc (.cells #[.int .i64 gen, .slice A' m.length ca', .slice B' b.length cb', .slice C' o.length cc'] 139)) (w.heap.size + 1) 139 #[.int .i64 gen, .slice A' m.length ca', .slice B' b.length cb', .slice C' o.length cc'] := by simpa using Blk.new (w.alloc (.cells #[.int .i64 gen, .slice A m.length ca, .slice B b.length cb, .slice C o.length cc] 139)) 139 #[.int .i64 gen, .slice A' m.length ca', .slice B' b.length cb', .slice C' o.length cc']
  refine (eqInt_same A A' ca ca' m hm _ (HA.out.below B0) (HA'.out.below B0)).mono ?_
  rintro e w1 ⟨rfl, g1⟩
  have B1 := via0 g1 B0
  have r0 := p0.below g1 p0.lt
  have r1 := p1.below g1 p1.lt
  clear p0 p1 g1 B0
  obtain ⟨u0, u1, u2, u3⟩ := r0.row4
  obtain ⟨n0, n1, n2, n3⟩ := r1.row4
  go_wp2_with fail
  refine (eqInt_same B B' cb cb' b hb _ (HB.out.below B1) (HB'.out.below B1)).mono ?_
  rintro e w2 ⟨rfl, g2⟩
  have B2 := via0 g2 B1
  have s0 := r0.below g2 r0.lt
  have s1 := r1.below g2 r1.lt
  clear r0 r1 g2 B1 u0 u1 u2 u3 n0 n1 n2 n3
  obtain ⟨u0, u1, u2, u3⟩ := s0.row4
  obtain ⟨n0, n1, n2, n3⟩ := s1.row4
  go_wp2_with fail
  refine (eqInt_same C C' cc cc' o ho _ (HC.out.below B2) (HC'.out.below B2)).mono ?_
  rintro e w3 ⟨rfl, g3⟩
  have B3 := via0 g3 B2
  go_wp2
  go_ret
  exact ⟨rfl, B3⟩
theorem cellsGroup : Tryz.prog.cellsOf 189 = 4 := by kernel_rfl
end Go.Proofs.YtanihpmgoeadkaaGreat.Gen

/-
  Lists of groups, each with its three lists: how they lie, what the laws' to, sz, eq, mark and held functions of them do; the argument opened. No condition but that there are at most 1048576.
-/
namespace Go.Proofs.YtanihpmgoeadkaaGreat.Gen
open Go.ChangeShapes Go.WideShapes Go.ChangeAt Go.RowKit Go.Joins Go.Deep Base
set_option linter.unusedVariables false
set_option linter.unusedSimpArgs false
structure GC where
  gen : Int
  a1 : Option Addr
  c1 : Nat
  m : List Int
  a2 : Option Addr
  c2 : Nat
  b : List Int
  a3 : Option Addr
  c3 : Nat
  o : List Int
instance : Inhabited GC := ⟨⟨0, none, 0, [], none, 0, [], none, 0, []⟩⟩
instance : Cel GC where
  k := 4
  cs x := [.int .i64 x.gen, .slice x.a1 x.m.length x.c1, .slice x.a2 x.b.length x.c2, .slice x.a3 x.o.length x.c3]
  len _ := rfl
  one x u hu := by simp at hu; rcases hu with rfl | rfl | rfl | rfl<;>rfl
structure PG where
  gen : Int
  m : List Int
  b : List Int
  o : List Int
def GC.p (x : GC) : PG := ⟨x.gen, x.m, x.b, x.o⟩
def GC.right (x : GC) : Prop := I64 x.gen /\ (x.m.length <= 9223372036854775807 /\ x.b.length <= 9223372036854775807 /\ x.o.length <= 9223372036854775807) /\ (∀ y ∈ x.m, I64 y) /\ (∀ y ∈ x.b, I64 y) /\ ∀ y ∈ x.o, I64 y
def atG (w : World) (x : GC) : Prop := At w x.a1 x.m /\ At w x.a2 x.b /\ At w x.a3 x.o
theorem atG.below {w w' : World} {x : GC} (h : atG w x) (hw : Below w.heap.size w w') : atG w' x := ⟨h.1.below hw, h.2.1.below hw, h.2.2.below hw⟩
def EachG (w : World) (l : List GC) : Prop := ∀ x ∈ l, atG w x
theorem EachG.below {w w' : World} {l : List GC} (h : EachG w l) (hw : Below w.heap.size w w') : EachG w' l := fun x hx => (h x hx).below hw
def grpP (w : World) (x : GC) (S : Nat -> Prop) : Prop :=
  ∃ S1 S2 S3 : Nat -> Prop, (∀ y, S1 y -> S y) /\ (∀ y, S2 y -> S y) /\ (∀ y, S3 y -> S y) /\ (∀ y, S1 y -> ¬ S2 y) /\ (∀ y, S1 y -> ¬ S3 y) /\ (∀ y, S2 y -> ¬ S3 y) /\ Sub w x.a1 x.m S1 /\ Sub w x.a2 x.b S2 /\ Sub w x.a3 x.o S3
theorem grpP_firm : Firm grpP := fun w w' x S T ⟨S1, S2, S3, i1, i2, i3, d1, d2, d3, s1, s2, s3⟩ k hd =>
  ⟨S1, S2, S3, i1, i2, i3, d1, d2, d3, s1.offp k (fun y hy => hd y (i1 y hy)), s2.offp k (fun y hy => hd y (i2 y hy)), s3.offp k (fun y hy => hd y (i3 y hy))⟩
theorem grpP_at {w : World} {x : GC} {S : Nat -> Prop} (h : grpP w x S) : atG w x := by
  obtain ⟨S1, S2, S3, i1, i2, i3, d1, d2, d3, s1, s2, s3⟩ := h
  exact ⟨s1.at, s2.at, s3.at⟩
theorem grpP_each {S : Nat -> Prop} {w : World} {a : Option Addr} {l : List GC} (h : Own grpP w a l S) : EachG w l := h.each (fun x S hx => grpP_at hx)
theorem In.getGC {w : World} {b o : Nat} {l : List GC} (h : In w b o l) (i : Nat) (hi : i < l.length) :
    w.cell? ⟨b, o + i * 4, none⟩ = some (.int .i64 l[i].gen) /\ w.cell? ⟨b, o + i * 4 + 1, none⟩ = some (.slice l[i].a1 l[i].m.length l[i].c1) /\ w.cell? ⟨b, o + i * 4 + 2, none⟩ = some (.slice l[i].a2 l[i].b.length l[i].c2) /\ w.cell? ⟨b, o + i * 4 + 3, none⟩ = some (.slice l[i].a3 l[i].o.length l[i].c3) :=
  ⟨h.cell i hi (f := 0) rfl, h.cell i hi (f := 1) rfl, h.cell i hi (f := 2) rfl, h.cell i hi (f := 3) rfl⟩
theorem infoGC : (Tryz.prog.info? 139).map (fun i => (i.zero, i.size, i.bytes)) = some (some (.agg #[.int .i64 0, .slice none 0 0, .slice none 0 0, .slice none 0 0]), 4, 80) := by kernel_rfl
def szGC (x : GC) : Nat := x.m.length + x.b.length + x.o.length
set_option maxRecDepth 100000 in
set_option maxHeartbeats 1000000 in
theorem szGroupS_any (A : Option Addr) (cap : Nat) (l : List GC) (hl : l.length <= 9223372036854775807) (hr : ∀ x ∈ l, x.right) (left : Int) (h0 : 0 <= left) (h1 : left <= 1048576) (w : World) (hA : At w A l) (hE : EachG w l) :
    Calls Tryz.prog 69 #[.slice A l.length cap, .int .i64 left] w fun e w' => (∃ r : Int, e = .returned (.int .i64 r) /\ (r < 0 ∨ (0 <= r /\ r = left - (l.length : Int) - (count szGC l : Int)))) /\ Below w.heap.size w w' := by
  have HA := hidP hA
  have Hr := hidP hr
  have HE := hidP hE
  clear hA hr hE
  by_cases h : left < (l.length : Int)
  . have g : left - (l.length : Int) < 0 := by omega
    go_enter Tryz.func69, Tryz.ntmps69
    go_wp2
    go_ret
    exact ⟨⟨-1, rfl, .inl (by omega)⟩, Below.refl _ _⟩
  . have g : ¬ left - (l.length : Int) < 0 := by omega
    go_enter Tryz.func69, Tryz.ntmps69
    go_wp2
    go_loopw [1, 5] (fun q i w' => ∃ (n : Nat) (z : Int), i = .int .i64 (n : Int) /\ q = .int .i64 z /\ n <= l.length /\ 0 <= z /\ z <= 1048576 /\ Hid (z = left - (l.length : Int) - (count szGC (l.take n) : Int)) /\ Below w.heap.size w w') (fun _ i _ => l.length - (intOf i).toNat)
    case atStart => exact ⟨0, _, rfl, rfl, by omega, by omega, by omega, by simp [Hid, count], Below.refl _ _⟩
    case round =>
      obtain ⟨n, z, rfl, rfl, hn, hz0, hz1, hz, hbl⟩ := hrel
      by_cases hlt : n < l.length
      . obtain ⟨b, o, rfl, hbs, hIn⟩ : ∃ b o, A = some ⟨b, o, none⟩ /\ b < w.heap.size /\ In w b o l := by
          rcases HA.out with h | h
          . subst h; simp at hlt
          . exact h
        obtain ⟨c0, c1, c2, c3⟩ := (hIn.below hbs hbl).getGC n hlt
        have hms := hidP (Hr.out _ (List.getElem_mem hlt))
        have hsn := hidP (count_snoc szGC l n hlt)
        by_cases hs : z < ((l[n].m.length + l[n].b.length + l[n].o.length : Nat) : Int)
        . go_wp2_with fail
          refine (szGroup_any _ _ _ _ _ _ _ _ _ _ hms.out.2.1.1 hms.out.2.1.2.1 hms.out.2.1.2.2 z hz0 hz1 _).mono ?_
          rw [if_pos hs]
          rintro e w1 ⟨rfl, g1⟩
          go_wp2
          go_ret
          exact ⟨⟨-1, rfl, .inl (by omega)⟩, via0 g1 hbl⟩
        . obtain ⟨r, hr⟩ : ∃ r : Int, r = z - ((l[n].m.length + l[n].b.length + l[n].o.length : Nat) : Int) := ⟨_, rfl⟩
          have hp : ¬ r < 0 := by omega
          have HS := hidP hs
          have HR1 := hidP hr
          clear hr hs
          go_wp2_with fail
          refine (szGroup_any _ _ _ _ _ _ _ _ _ _ hms.out.2.1.1 hms.out.2.1.2.1 hms.out.2.1.2.2 z hz0 hz1 _).mono ?_
          rw [if_neg (by have := HS.out; omega), ← HR1.out]
          rintro e w1 ⟨rfl, g1⟩
          go_wp2
          have hz' := hz.out
          have hsn' := hsn.out
          have hr' := HR1.out
          exact ⟨⟨n + 1, r, by go_num, rfl, by omega, by omega, by omega, by show _ = _; rw [hsn', hr', hz']; simp only [szGC]; omega, via0 g1 hbl⟩, by simp [intOf]; omega⟩
      . have e : l.take n = l := List.take_of_length_le (by omega)
        go_wp2
        go_ret
        have hz' := hz.out
        rw [e] at hz'
        exact ⟨⟨z, rfl, .inr ⟨hz0, hz'⟩⟩, hbl⟩
theorem three_P {n : Nat} {w : World} {x y z : Nat} {m b o : List Int} {gen : Int} {c1 c2 c3 : Nat} (h : Three n w x y z m b o) : grpP w ⟨gen, some ⟨x, 0, none⟩, c1, m, some ⟨y, 0, none⟩, c2, b, some ⟨z, 0, none⟩, c3, o⟩ (fun i => i = x ∨ i = y ∨ i = z) := by
  have h2 := h.xy; have h3 := h.yz; have h4 := h.zs
  exact ⟨fun i => i = x, fun i => i = y, fun i => i = z, fun _ e => .inl e, fun _ e => .inr (.inl e), fun _ e => .inr (.inr e), fun _ e e' => by omega, fun _ e e' => by omega, fun _ e e' => by omega,
    .inr ⟨x, 0, rfl, rfl, by omega, h.im, h.tm⟩, .inr ⟨y, 0, rfl, rfl, by omega, h.ib, h.tb⟩, .inr ⟨z, 0, rfl, rfl, h.zs, h.io, h.to⟩⟩
set_option maxRecDepth 100000 in
set_option maxHeartbeats 1000000 in
theorem toGroupS_any (A : Option Addr) (cap : Nat) (l : List GC) (hl : l.length <= 1048576) (hr : ∀ x ∈ l, x.m.length <= 1048576 /\ x.b.length <= 1048576 /\ x.o.length <= 1048576) (w : World) (hA : At w A l) (hE : EachG w l) :
    Calls Tryz.prog 82 #[.slice A l.length cap] w fun e w' => e = .returned (.slice (some ⟨w.heap.size, 0, none⟩) l.length l.length) /\ Below w.heap.size w w' /\ ∃ l', Grow grpP w' w.heap.size l.length l' /\ l'.map GC.p = l.map GC.p := by
  have HA := hidP hA
  have HE := hidP hE
  have Hr := hidP hr
  clear hA hE hr
  have hmk := make_els (P := Tryz.prog) Tryz.underlying52 infoGC (by omega) l.length hl
  go_enter Tryz.func82, Tryz.ntmps82
  go_wp2
  go_loopw [4] (fun i w' => ∃ (n : Nat) (pre : List GC), i = .int .i64 (n : Int) /\ n <= l.length /\ Below w.heap.size w w' /\ w.heap.size < w'.heap.size /\ Hid (pre.length = n) /\ Hid (Grow grpP w' w.heap.size l.length pre) /\ Hid (pre.map GC.p = (l.take n).map GC.p)) (fun i _ => l.length - (intOf i).toNat)
  case atStart => exact ⟨0, [], rfl, by omega, by repeat (first | exact Below.refl _ _ | assumption | refine via0 (by assumption) ?_ | refine Below.drew ?_ | refine alloc0 ?_ _), by simp, rfl, Grow.start (by simp) (made_there w _ _ _ _), by simp [Hid]⟩
  case round =>
    obtain ⟨n, pre, rfl, hn, hbl, hsz, hpl, hgr, hsame⟩ := hrel
    by_cases hlt : n < l.length
    . obtain ⟨b, o, rfl, hbs, hIn⟩ : ∃ b o, A = some ⟨b, o, none⟩ /\ b < w.heap.size /\ In w b o l := by
        rcases HA.out with h | h
        . subst h; simp at hlt
        . exact h
      obtain ⟨c0, c1, c2, c3⟩ := (hIn.below hbs hbl).getGC n hlt
      have hms := Hr.out _ (List.getElem_mem hlt)
      have hat := hidP ((HE.out _ (List.getElem_mem hlt)).below hbl)
      obtain ⟨⟨v0, d0⟩, f0⟩ := there_at (f := 0) hgr.out.th hlt (by decide)
      obtain ⟨⟨v1, d1⟩, f1⟩ := there_at (f := 1) hgr.out.th hlt (by decide)
      obtain ⟨⟨v2, d2⟩, f2⟩ := there_at (f := 2) hgr.out.th hlt (by decide)
      obtain ⟨⟨v3, d3⟩, f3⟩ := there_at (f := 3) hgr.out.th hlt (by decide)
      simp only [Nat.zero_add, Nat.add_zero, show Cel.k GC = 4 from rfl] at d0 f0 d1 f1 d2 f2 d3 f3
      go_wp2_with (go_at_call 138; refine (toGroup_any _ _ _ _ _ _ _ _ _ _ hms.1 hms.2.1 hms.2.2 _ hat.out.1 hat.out.2.1 hat.out.2.2).mono ?_; rintro e w1 ⟨bx, by1, bz, rfl, g1, h3⟩; obtain ⟨k1, m1⟩ := bcell g1; have s1 := g1.size; have H3 := hidP h3; clear h3)
      have hpl' := hpl.out
      have t3 := H3.out
      have hst := hgr.out.snoc grpP_firm (by omega) g1 (y := (⟨l[n].gen, some ⟨bx, 0, none⟩, l[n].m.length, l[n].m, some ⟨by1, 0, none⟩, l[n].b.length, l[n].b, some ⟨bz, 0, none⟩, l[n].o.length, l[n].o⟩ : GC)) (S := fun x => x = bx ∨ x = by1 ∨ x = bz) (three_P H3.out) (fun x hx => by have h1 := t3.nx; have h2 := t3.xy; have h3 := t3.yz; have h4 := t3.zs; rcases hx with rfl | rfl | rfl<;>exact ⟨by omega, by omega⟩)
      rw [hpl'] at hst
      refine ⟨⟨n + 1, _, by go_num, by omega, ?_, by simp; omega, ?_, hst, ?_⟩, by simp [intOf]; omega⟩
      . exact (((((via0 g1 hbl).setCell (Nat.le_refl _) _).setCell (Nat.le_refl _) _).setCell (Nat.le_refl _) _).setCell (Nat.le_refl _) _)
      . show _ = _; simp [hpl']
      . show _ = _
        rw [List.map_append, hsame.out, List.take_succ_eq_append_getElem hlt, List.map_append]
        rfl
    . have e : l.take n = l := List.take_of_length_le (by omega)
      go_wp2
      go_ret
      exact ⟨rfl, hbl, pre, hgr.out, by rw [hsame.out, e]⟩
set_option maxRecDepth 100000 in
set_option maxHeartbeats 1000000 in
theorem eqGroupS_same (A A' : Option Addr) (cap cap' : Nat) (l l' : List GC) (hl : l.length <= 9223372036854775807) (hr : ∀ x ∈ l, x.m.length <= 9223372036854775807 /\ x.b.length <= 9223372036854775807 /\ x.o.length <= 9223372036854775807) (hsame : l'.map GC.p = l.map GC.p) (w : World) (hA : At w A l) (hE : EachG w l) (hA' : At w A' l') (hE' : EachG w l') :
    Calls Tryz.prog 97 #[.slice A l.length cap, .slice A' l.length cap'] w fun e w' => e = .returned (.bool true) /\ Below w.heap.size w w' := by
  have HA := hidP hA
  have HE := hidP hE
  have HA' := hidP hA'
  have HE' := hidP hE'
  have Hr := hidP hr
  have HS := hidP hsame
  have HLL : Hid (l'.length = l.length) := by have := congrArg List.length hsame; show _ = _; simpa using this
  clear hA hE hA' hE' hr hsame
  go_enter Tryz.func97, Tryz.ntmps97
  go_wp2
  go_loopw [5] (fun i w' => ∃ (n : Nat), i = .int .i64 (n : Int) /\ n <= l.length /\ Below w.heap.size w w') (fun i _ => l.length - (intOf i).toNat)
  case atStart => exact ⟨0, rfl, by omega, Below.refl _ _⟩
  case round =>
    obtain ⟨n, rfl, hn, hbl⟩ := hrel
    by_cases hlt : n < l.length
    . have hll := HLL.out
      obtain ⟨b, o, rfl, hbs, hin⟩ : ∃ b o, A = some ⟨b, o, none⟩ /\ b < w.heap.size /\ In w b o l := by
        rcases HA.out with h | h
        . subst h; simp at hlt
        . exact h
      obtain ⟨b', o', rfl, hbs', hin'⟩ : ∃ b o, A' = some ⟨b, o, none⟩ /\ b < w.heap.size /\ In w b o l' := by
        rcases HA'.out with h | h
        . subst h; simp at hll; omega
        . exact h
      have hp : (l'[n]'(by omega)).p = l[n].p := by
        have h1 : (l'.map GC.p)[n]'(by simp; omega) = (l.map GC.p)[n]'(by simpa using hlt) := by simp only [HS.out]
        simpa using h1
      obtain ⟨c0, c1, c2, c3⟩ := (hin.below hbs hbl).getGC n hlt
      obtain ⟨d0, d1, d2, d3⟩ := (hin'.below hbs' hbl).getGC n (by omega)
      have hat := HE.out _ (List.getElem_mem hlt)
      have hat' := HE'.out _ (List.getElem_mem (show n < l'.length by omega))
      have hms := Hr.out _ (List.getElem_mem hlt)
      generalize l'[n]'(by omega) = y at hp d0 d1 d2 d3 hat'
      generalize l[n] = x at hp c0 c1 c2 c3 hat hms
      obtain ⟨yg, y1, yc1, ym, y2, yc2, yb, y3, yc3, yo⟩ := y
      obtain ⟨xg, x1, xc1, xm, x2, xc2, xb, x3, xc3, xo⟩ := x
      simp only [GC.p, PG.mk.injEq] at hp
      obtain ⟨rfl, rfl, rfl, rfl⟩ := hp
      simp only at c0 c1 c2 c3 d0 d1 d2 d3 hms
      have Hat := hidP (hat.below hbl)
      have Hat' := hidP (hat'.below hbl)
      clear hat hat' hll
      have hb1 : b < wr.heap.size := Nat.lt_of_lt_of_le hbs hbl.size
      have hb2 : b' < wr.heap.size := Nat.lt_of_lt_of_le hbs' hbl.size
      have hi0 : (0 : Int) <= (n : Int) := by omega
      have hi1 : (n : Int) < (l.length : Int) := by omega
      go_wp2
      go_region_held3 (fun w' => w'.cell? ⟨b, o + n * 4, none⟩ = some (.int .i64 yg) /\ w'.cell? ⟨b, o + n * 4 + 1, none⟩ = some (.slice x1 ym.length xc1) /\ w'.cell? ⟨b, o + n * 4 + 2, none⟩ = some (.slice x2 yb.length xc2) /\ w'.cell? ⟨b, o + n * 4 + 3, none⟩ = some (.slice x3 yo.length xc3) /\
          w'.cell? ⟨b', o' + n * 4, none⟩ = some (.int .i64 yg) /\ w'.cell? ⟨b', o' + n * 4 + 1, none⟩ = some (.slice y1 ym.length yc1) /\ w'.cell? ⟨b', o' + n * 4 + 2, none⟩ = some (.slice y2 yb.length yc2) /\ w'.cell? ⟨b', o' + n * 4 + 3, none⟩ = some (.slice y3 yo.length yc3) /\ wr.heap.size <= w'.heap.size)
        (first | (go_split_ands; refine ⟨?_, ?_, ?_, ?_, ?_, ?_, ?_, ?_, ?_⟩<;>first | assumption | exact (k1 _ _ hb1).trans (by assumption) | exact (k1 _ _ hb2).trans (by assumption) | exact s1 | (simp; done)) | go_keep)
        (first
          | (go_at_call 164; refine (eqGroup_same _ _ _ _ _ _ _ _ _ _ _ _ _ ym yb yo hms.1 hms.2.1 hms.2.2 _ (Hat.out.1.below (Below.drew (Below.refl _ _))) (Hat.out.2.1.below (Below.drew (Below.refl _ _))) (Hat.out.2.2.below (Below.drew (Below.refl _ _))) (Hat'.out.1.below (Below.drew (Below.refl _ _))) (Hat'.out.2.1.below (Below.drew (Below.refl _ _))) (Hat'.out.2.2.below (Below.drew (Below.refl _ _)))).mono ?_; rintro e w1 ⟨rfl, g1⟩; obtain ⟨k1, m1⟩ := bcell g1; have s1 := g1.size))
      all_goals
        go_wp2
        exact ⟨⟨n + 1, by go_num, by omega, via0 g1 hbl.drew⟩, by simp [intOf]; omega⟩
    . go_wp2
      go_ret
      exact ⟨rfl, hbl⟩
def cG (x : GC) : Nat := 1 + x.m.length + x.b.length + x.o.length
set_option maxRecDepth 100000 in
theorem openGC {H : Type} {enc : TypeId × Value -> H} {w : World} {base n : Nat} {spare : Nat -> Bool} {held : Bool} {a : Addr} {cs : List Value} {y : DataW H × List MemPlace}
    (h1 : w.cells? base a 4 = some cs) (h2 : DataW.trod enc Tryz.prog w base spare held n 189 cs = some y) :
    ∃ x : GC, (x.right /\ atG w x) /\ a.spot = none /\ a.block < w.heap.size /\ ∀ j v, (Cel.cs x)[j]? = some v -> w.cell? ⟨a.block, a.off + j, none⟩ = some v := by
  obtain ⟨_, hlen, hc⟩ := World.cells?_some h1
  match cs, hlen with
  | [c0, c1, c2, c3], _ =>
    obtain ⟨m, hf⟩ := fields_at Tryz.underlying189 (by kernel_rfl) h2
    obtain ⟨y0, g0⟩ := hf 0 _ rfl _ rfl
    obtain ⟨y1, g1⟩ := hf 1 _ rfl _ rfl
    obtain ⟨y2, g2⟩ := hf 2 _ rfl _ rfl
    obtain ⟨y3, g3⟩ := hf 3 _ rfl _ rfl
    obtain ⟨gen, e0, _, w0⟩ := DataW.trod_int Tryz.underlying3 g0
    simp at e0
    subst e0
    obtain ⟨A, ca, ms, rfl, p1, p2, p3⟩ := openInts g1
    obtain ⟨B, cb, bs, rfl, b1, b2, b3⟩ := openInts g2
    obtain ⟨C, cc, os, rfl, o1, o2, o3⟩ := openInts g3
    have q0 := hc 0 (by omega)
    have hsp : a.spot = none := by
      cases hs : a.spot with
      | none => rfl
      | some s => exfalso; simp [Addr.add, World.cell?, hs] at q0; split at q0<;>simp at q0
    have hlt : a.block < w.heap.size := by
      rw [show a.add 0 = a from rfl] at q0
      unfold World.cell? at q0
      cases hh : w.heap[a.block]? with
      | none => simp [hh] at q0
      | some ob => exact (Array.getElem?_eq_some_iff.1 hh).1
    refine ⟨⟨gen, A, ca, ms, B, cb, bs, C, cc, os⟩, ⟨⟨i64_of w0, ⟨p1, b1, o1⟩, p2, b2, o2⟩, p3, b3, o3⟩, hsp, hlt, ?_⟩
    intro j v hv
    have hj : j < 4 := (List.getElem?_eq_some_iff.1 hv).1
    have q := hc j hj
    have e : a.add j = ⟨a.block, a.off + j, none⟩ := by
      obtain ⟨b, o, s⟩ := a
      simp only at hsp
      subst hsp
      exact Addr.add_mid b o j
    rw [e] at q
    rw [q]
    exact hv
set_option maxRecDepth 100000 in
theorem openGroupS {H : Type} {enc : TypeId × Value -> H} {W : World} {base n : Nat} {spare : Nat -> Bool} {held : Bool} {c : Value} {y : DataW H × List MemPlace}
    (g : DataW.trod enc Tryz.prog W base spare held n 29 [c] = some y) :
    ∃ (A : Option Addr) (cap : Nat) (l : List GC), c = .slice A l.length cap /\ l.length <= 9223372036854775807 /\ (∀ x ∈ l, x.right) /\ At W A l /\ EachG W l := by
  rcases open_slice Tryz.underlying29 g with ⟨e2, _⟩ | ⟨a, len, cap, m, n', D, Pl, e2, _, hl, hm, hmm, _, hx⟩
  . simp at e2
    subst e2
    exact ⟨none, 0, [], rfl, by simp, by simp, .inl rfl, by simp [EachG]⟩
  . simp at e2
    subst e2
    have hle : len <= m := by rw [hmm]; split<;>omega
    rw [cellsGroup] at hx
    obtain ⟨X, hX⟩ := choose_lt (α := GC) (p := fun i x => (x.right /\ atG W x) /\ (a.add (i * 4)).spot = none /\ (a.add (i * 4)).block < W.heap.size /\ ∀ j v, (Cel.cs x)[j]? = some v -> W.cell? ⟨(a.add (i * 4)).block, (a.add (i * 4)).off + j, none⟩ = some v)
      (n := len) (fun i hi => by obtain ⟨cs', h1, h2⟩ := hx i (by omega); exact openGC h1 h2)
    obtain ⟨l, rfl, hR, hat⟩ := at_of (α := GC) (by decide) (R := fun x => x.right /\ atG W x) hX
    exact ⟨some a, cap, l, rfl, by simp [maxLen] at hm ⊢; omega, fun x hx => (hR x hx).1, hat, fun x hx => (hR x hx).2⟩
end Go.Proofs.YtanihpmgoeadkaaGreat.Gen

/-
  GroupOk of the program at this seat. No condition but that its lists have at most 1048576 numbers.
-/
namespace Go.Proofs.YtanihpmgoeadkaaGreat.Gen
open Go.ChangeShapes Go.WideShapes Go.ChangeAt Go.RowKit Go.Joins Go.Deep Base
set_option linter.unusedVariables false
set_option linter.unusedSimpArgs false
def numTo (l : List Int) (n : Nat) : Bool := (l.take n).all fun x => inB x 0 100000
theorem numTo_succ {l : List Int} {n : Nat} (h : n < l.length) : numTo l (n + 1) = (numTo l n && inB l[n] 0 100000) := by
  unfold numTo; rw [List.take_succ_eq_append_getElem h, List.all_append]; simp
theorem numTo_no {l : List Int} {n : Nat} (h : n < l.length) (hx : inB l[n] 0 100000 = false) : numTo l l.length = false := by
  unfold numTo; rw [List.take_length, List.all_eq_false]; exact ⟨l[n], List.getElem_mem h, by simp [hx]⟩
def memAt (m : List Int) (j : Nat) : Bool := inB (m.getD j 0) 0 3 && (decide (j = 0) || decide (m.getD (j - 1) 0 < m.getD j 0))
def memTo (m : List Int) (n : Nat) : Bool := (List.range n).all (memAt m)
theorem memTo_succ (m : List Int) (n : Nat) : memTo m (n + 1) = (memTo m n && memAt m n) := by simp [memTo, List.range_succ]
theorem memTo_no {m : List Int} {n : Nat} (h : n < m.length) (hx : memAt m n = false) : memTo m m.length = false := by
  unfold memTo; rw [List.all_eq_false]; exact ⟨n, by simpa using h, by simp [hx]⟩
theorem memAt_is {m : List Int} {n : Nat} (h : n < m.length) : memAt m n = (inB m[n] 0 3 && (decide (n = 0) || decide (m.getD (n - 1) 0 < m[n]))) := by simp [memAt, h]
def gokB (gen rows : Int) (m b o : List Int) : Bool :=
  inB gen 0 100000 && memTo m m.length && decide ((b.length : Int) = (m.length : Int)) && numTo b b.length && decide ((o.length : Int) = rows) && numTo o o.length
set_option maxRecDepth 100000 in
theorem areNum_any (A : Option Addr) (cap : Nat) (l : List Int) (hl : l.length <= 1048576) (w : World) (hA : At w A l) :
    Calls Tryz.prog 156 #[.slice A l.length cap] w fun e w' => e = .returned (.bool (numTo l l.length)) /\ w' = w := by
  have HA := hidP hA
  clear hA
  go_enter Tryz.func156, Tryz.ntmps156
  go_wp2
  go_loopw [7] (fun i w' => ∃ (n : Nat), i = .int .i64 (n : Int) /\ n <= l.length /\ w' = w /\ Hid (numTo l n = true)) (fun i _ => l.length - (intOf i).toNat)
  case atStart => exact ⟨0, rfl, by omega, rfl, rfl⟩
  case round =>
    obtain ⟨n, rfl, hn, rfl, hR⟩ := hrel
    by_cases hlt : n < l.length
    . obtain ⟨bb, oo, rfl, hbs, hin⟩ : ∃ b o, A = some ⟨b, o, none⟩ /\ b < wr.heap.size /\ In wr b o l := by
        rcases HA.out with h | h
        . subst h; simp at hlt
        . exact h
      have c0 := hin.getInt n hlt
      have hi0 : (0 : Int) <= (n : Int) := by omega
      have hi1 : (n : Int) < (l.length : Int) := by omega
      cases hx : inB l[n] 0 100000
      . have hF : Hid (numTo l l.length = false) := numTo_no hlt hx
        go_wp2_with (go_at_call 88; refine (within_any _ _ _ _).mono ?_; rw [hx]; rintro e w1 ⟨rfl, rfl⟩)
        go_ret
        exact ⟨by rw [hF.out]; rfl, rfl⟩
      . have hF : Hid (numTo l (n + 1) = true) := by show _ = _; rw [numTo_succ hlt, hR.out, hx]; rfl
        go_wp2_with (go_at_call 88; refine (within_any _ _ _ _).mono ?_; rw [hx]; rintro e w1 ⟨rfl, rfl⟩)
        exact ⟨⟨n + 1, by go_num, by omega, by first | rfl | trivial, hF⟩, by simp [intOf]; omega⟩
    . obtain rfl : n = l.length := by omega
      go_wp2
      go_ret
      exact ⟨by rw [hR.out]; rfl, rfl⟩
theorem isClient_any (x : Int) (w : World) : Calls Tryz.prog 209 #[.int .i64 x] w fun e w' => e = .returned (.bool (inB x 0 3)) /\ w' = w := by
  go_enter Tryz.func209, Tryz.ntmps209
  go_wp2_with fail
  refine (within_any x 0 3 _).mono ?_
  rintro e w1 ⟨rfl, rfl⟩
  go_wp2
  go_ret
  exact ⟨rfl, rfl⟩
set_option maxRecDepth 100000 in
theorem inOrder_any (A : Option Addr) (cap : Nat) (m : List Int) (hl : m.length <= 1048576) (w : World) (hA : At w A m) :
    Calls Tryz.prog 198 #[.slice A m.length cap] w fun e w' => e = .returned (.bool (memTo m m.length)) /\ w' = w := by
  have HA := hidP hA
  clear hA
  go_enter Tryz.func198, Tryz.ntmps198
  go_wp2
  go_loopw [3, 8] (fun lo i w' => ∃ (n : Nat) (y : Int), i = .int .i64 (n : Int) /\ lo = .int .i64 y /\ n <= m.length /\ 0 <= y /\ y <= 4 /\ w' = w /\ Hid (y = if n = 0 then 0 else m.getD (n - 1) 0 + 1) /\ Hid (memTo m n = true)) (fun _ i _ => m.length - (intOf i).toNat)
  case atStart => exact ⟨0, 0, rfl, rfl, by omega, by omega, by omega, rfl, rfl, rfl⟩
  case round =>
    obtain ⟨n, y, rfl, rfl, hn, hy0, hy1, rfl, hy, hR⟩ := hrel
    by_cases hlt : n < m.length
    . obtain ⟨bb, oo, rfl, hbs, hin⟩ : ∃ b o, A = some ⟨b, o, none⟩ /\ b < wr.heap.size /\ In wr b o m := by
        rcases HA.out with h | h
        . subst h; simp at hlt
        . exact h
      have c0 := hin.getInt n hlt
      have hi0 : (0 : Int) <= (n : Int) := by omega
      have hi1 : (n : Int) < (m.length : Int) := by omega
      by_cases h1 : m[n] < y
      . have hF : Hid (memTo m m.length = false) := memTo_no hlt (by
          rw [memAt_is hlt]
          have hy' := hy.out
          by_cases hz : n = 0
          . rw [if_pos hz] at hy'
            have : inB m[n] 0 3 = false := by simp [inB]; omega
            rw [this]; simp
          . rw [if_neg hz] at hy'
            have : decide (m.getD (n - 1) 0 < m[n]) = false := decide_eq_false (by omega)
            rw [this]; simp [hz])
        go_wp2_with fail
        go_ret
        exact ⟨by rw [hF.out]; rfl, rfl⟩
      . have h1' : decide (m[n] < y) = false := decide_eq_false h1
        cases hx : inB m[n] 0 3
        . have hF : Hid (memTo m m.length = false) := memTo_no hlt (by rw [memAt_is hlt, hx]; simp)
          go_wp2_with (go_at_call 209; refine (isClient_any _ _).mono ?_; rw [hx]; rintro e w1 ⟨rfl, rfl⟩)
          go_ret
          exact ⟨by rw [hF.out]; rfl, rfl⟩
        . obtain ⟨hx0, hx1⟩ : 0 <= m[n] /\ m[n] <= 3 := by simpa [inB] using hx
          have hF : Hid (memTo m (n + 1) = true) := by
            show _ = _
            rw [memTo_succ, hR.out, memAt_is hlt, hx]
            have hy' := hy.out
            by_cases hz : n = 0
            . simp [hz]
            . rw [if_neg hz] at hy'
              have : decide (m.getD (n - 1) 0 < m[n]) = true := decide_eq_true (by omega)
              rw [this]; simp
          have hO : Hid (m[n] + 1 = if n + 1 = 0 then 0 else m.getD (n + 1 - 1) 0 + 1) := by show _ = _; simp [hlt]
          go_wp2_with (go_at_call 209; refine (isClient_any _ _).mono ?_; rw [hx]; rintro e w1 ⟨rfl, rfl⟩)
          exact ⟨⟨n + 1, m[n] + 1, by go_num, rfl, by omega, by omega, by omega, by first | rfl | trivial, hO, hF⟩, by simp [intOf]; omega⟩
    . obtain rfl : n = m.length := by omega
      go_wp2
      go_ret
      exact ⟨by rw [hR.out]; rfl, rfl⟩
set_option maxRecDepth 100000 in
set_option maxHeartbeats 2000000 in
theorem implGok_any (gen rows : Int) (A B C : Option Addr) (ca cb cc : Nat) (m b o : List Int) (hl : m.length <= 1048576 /\ b.length <= 1048576 /\ o.length <= 1048576) (w : World) (hA : At w A m) (hB : At w B b) (hC : At w C o) :
    Calls Tryz.prog 155 #[.agg #[.int .i64 gen, .slice A m.length ca, .slice B b.length cb, .slice C o.length cc], .int .i64 rows] w fun e w' => e = .returned (.bool (gokB gen rows m b o)) /\ Below w.heap.size w w' := by
  have HA := hidP hA
  have HB := hidP hB
  have HC := hidP hC
  have h1 := hidP (fun W hW => areNum_any B cb b hl.2.1 W hW)
  have h2 := hidP (fun W hW => areNum_any C cc o hl.2.2 W hW)
  have h3 := hidP (fun W hW => inOrder_any A ca m hl.1 W hW)
  clear hA hB hC
  have Hok : Hid (∀ a1 a2 a3 a4 a5 a6 : Bool, a1 = inB gen 0 100000 -> a2 = memTo m m.length -> a3 = decide ((b.length : Int) = (m.length : Int)) -> a4 = numTo b b.length -> a5 = decide ((o.length : Int) = rows) -> a6 = numTo o o.length -> gokB gen rows m b o = (a1 && a2 && a3 && a4 && a5 && a6)) := by
    intro a1 a2 a3 a4 a5 a6 e1 e2 e3 e4 e5 e6
    subst e1 e2 e3 e4 e5 e6
    rfl
  generalize gokB gen rows m b o = ans at *
  generalize memTo m m.length = mt at *
  generalize numTo b b.length = nb at *
  generalize numTo o o.length = no at *
  go_enter Tryz.func155, Tryz.ntmps155
  go_wp2_with (first
    | (go_at_call 88; refine (within_any _ _ _ _).mono ?_; rintro e w' ⟨rfl, rfl⟩)
    | (go_at_call 198; refine (h3.out _ (HA.out.below (by repeat (first | exact Below.refl _ _ | assumption | refine via0 (by assumption) ?_ | refine Below.drew ?_ | refine alloc0 ?_ _)))).mono ?_; rintro e w' ⟨rfl, rfl⟩)
    | (go_at_call_of 156 (Value.slice B b.length cb); refine (h1.out _ (HB.out.below (by repeat (first | exact Below.refl _ _ | assumption | refine via0 (by assumption) ?_ | refine Below.drew ?_ | refine alloc0 ?_ _)))).mono ?_; rintro e w' ⟨rfl, rfl⟩)
    | (go_at_call_of 156 (Value.slice C o.length cc); refine (h2.out _ (HC.out.below (by repeat (first | exact Below.refl _ _ | assumption | refine via0 (by assumption) ?_ | refine Below.drew ?_ | refine alloc0 ?_ _)))).mono ?_; rintro e w' ⟨rfl, rfl⟩))
  all_goals
    go_ret
    refine ⟨?_, by repeat (first | exact Below.refl _ _ | assumption | refine via0 (by assumption) ?_ | refine Below.drew ?_ | refine alloc0 ?_ _)⟩
    rw [Hok.out _ _ _ _ _ _ rfl rfl rfl rfl rfl rfl]
    clear Hok h1 h2 h3 HA HB HC
    refine congrArg (fun b : Bool => Ending.returned (Value.bool b)) (?_ : _ = _)
    simp_all
end Go.Proofs.YtanihpmgoeadkaaGreat.Gen

/-
  A region that draws its order, and whose last operation (a store, as a rule) waits for all others: what its loads read need hold up to that operation alone, so that it may write the very cells that they read. No condition.
-/
namespace Go.Proofs.YtanihpmgoeadkaaGreat.Gen
set_option linter.unusedVariables false
section
variable {P : Program} {ops : Array Oper} {Q : Exit -> Act -> World -> Prop} {md : Region.Mode} {S : World -> Prop} {z : Nat}
def waitsForAll (md : Region.Mode) (ops : Array Oper) (z : Nat) : Bool :=
  match ops[z]? with
  | none => false
  | some o => (List.range ops.size).all fun j => j == z || o.after.any fun e => Region.binds md e && e.on == j
theorem not_last {i : Nat} {L : Array Bool} (hz : waitsForAll md ops z = true) (hi : i ∈ Region.ready md ops L) (hne : i ≠ z) : z ∉ Region.ready md ops L := fun h => by
  obtain ⟨hu, oi, hoi, _⟩ := mem_ready.1 hi
  obtain ⟨_, oz, hoz, hall⟩ := mem_ready.1 h
  have hlt : i < ops.size := (Array.getElem?_eq_some_iff.1 hoi).1
  simp only [waitsForAll, hoz, List.all_eq_true, List.mem_range, Bool.or_eq_true, beq_iff_eq] at hz
  have h1 := (hz i hlt).resolve_left hne
  obtain ⟨e, he, hb⟩ := Array.any_eq_true'.1 h1
  simp only [Bool.and_eq_true, beq_iff_eq] at hb
  have h2 := hall e he hb.1
  rw [hb.2] at h2
  rcases Nat.lt_or_ge i L.size with h' | h'
  . simp [h'] at hu h2
    rw [hu] at h2; cases h2
  . simp [Array.getElem?_eq_none h'] at h2
def anyUpTo (P : Program) (md : Region.Mode) (ops : Array Oper) (Q : Exit -> Act -> World -> Prop) (S : World -> Prop) (z : Nat) : Nat -> Array Bool -> Act -> World -> Prop
  | 0, L, a, w => Region.ready md ops L = [] /\ Q .normal a w
  | n + 1, L, a, w => (Region.ready md ops L = [] -> Q .normal a w) /\
    ∀ i ∈ Region.ready md ops L, wpOp P ops Q i (fun a' w' => (i = z ∨ S w') /\ anyUpTo P md ops Q S z n (L.setIfInBounds i true) a' w') a w
theorem upTo_take {i : Nat} {oi : Oper} {v : Value} (hz : waitsForAll md ops z = true) (hi : ops[i]? = some oi) (hs : Region.noSelect ops = true) (hQ : ∀ c a w, Q (.panic c) (a.put oi.dst v) w -> Q (.panic c) a w) (hiz : i ≠ z) (n : Nat) :
    ∀ (L : Array Bool) (a : Act) (w : World), Region.free md ops L i = true -> i ∈ Region.ready md ops L -> YieldsIf P ops S oi v a -> S w ->
      anyUpTo P md ops Q S z n (L.setIfInBounds i true) (a.put oi.dst v) w -> anyUpTo P md ops Q S z (n + 1) L a w := by
  have sel : ∀ (j : Nat) (o : Oper) cs b, ops[j]? = some o -> o.op ≠ .select cs b := Region.noSelect_spec hs
  suffices key : ∀ (L : Array Bool) (a : Act) (w : World), (∀ j oj, ops[j]? = some oj -> j ≠ i -> L.getD j true = false -> (∀ e ∈ oj.after, Region.binds md e = true -> e.on ≠ i) -> oi.apart ops oj = true) ->
      i ∈ Region.ready md ops L -> YieldsIf P ops S oi v a -> S w -> anyUpTo P md ops Q S z n (L.setIfInBounds i true) (a.put oi.dst v) w -> anyUpTo P md ops Q S z (n + 1) L a w from
    fun L a w hf hr hy hS H => key L a w (Region.free_spec hi hf) hr hy hS H
  induction n with
  | zero =>
    intro L a w _ hr hy hS H
    constructor
    . intro h; rw [h] at hr; exact absurd hr (List.not_mem_nil)
    . intro j hj
      rcases Decidable.em (j = i) with e | e
      . subst e; exact hy.wpOp hi hS ⟨.inr hS, H⟩
      . have g := ready_mono hj e
        rw [H.1] at g
        exact absurd g (List.not_mem_nil)
  | succ n ih =>
    intro L a w hfr hr hy hS H
    constructor
    . intro h; rw [h] at hr; exact absurd hr (List.not_mem_nil)
    . intro j hj
      rcases Decidable.em (j = i) with e | e
      . subst e; exact hy.wpOp hi hS ⟨.inr hS, H⟩
      . obtain ⟨hun, oj, hoj, hwait⟩ := mem_ready.1 hj
        have hjz : j ≠ z := fun h => by subst h; exact not_last hz hr hiz hj
        have iun := (mem_ready.1 hr).1
        have hno : ∀ d ∈ oj.after, Region.binds md d = true -> d.on ≠ i := fun d hd hb q => by
          have g := hwait d hd hb
          rw [q] at g
          rcases Nat.lt_or_ge i L.size with k | k
          . simp [k] at iun g
            rw [iun] at g; cases g
          . simp [Array.getElem?_eq_none k] at g
        have step := wpOp_putIf hoj (hfr j oj hoj e hun hno) (fun cs b => sel i oi cs b hi) (fun cs b => sel j oj cs b hoj) hQ hy (H.2 j (ready_mono hj e))
        refine wpOp_mono (fun a' w' g => ?_) step
        have hS' : S w' := g.2.1.resolve_left hjz
        refine ⟨.inr hS', ih _ a' w' (fun k ok hk hki hu hn => ?_) (ready_mono hr (Ne.symm e)) g.1 hS' ?_⟩
        . refine hfr k ok hk hki ?_ hn
          rcases Decidable.em (j = k) with q | q
          . subst q; exact hun
          . rwa [getD_set_ne true q] at hu
        . have := g.2.2
          rwa [Array.setIfInBounds_comm _ _ (Ne.symm e)] at this
theorem upTo_taken {i : Nat} {oi : Oper} {v : Value} {n : Nat} {L : Array Bool} {a : Act} {w : World} (hz : waitsForAll md ops z = true) (hi : ops[i]? = some oi) (hs : Region.noSelect ops = true) (hiz : i ≠ z)
    (hf : Region.free md ops L i = true) (hr : (Region.ready md ops L).contains i = true) (hQ : ∀ c a w, Q (.panic c) (a.put oi.dst v) w -> Q (.panic c) a w) (hy : YieldsIf P ops S oi v a) (hS : S w)
    (h : anyUpTo P md ops Q S z n (L.setIfInBounds i true) (a.put oi.dst v) w) : anyUpTo P md ops Q S z (n + 1) L a w :=
  upTo_take hz hi hs hQ hiz n L a w hf (by simpa using hr) hy hS h
end
end Go.Proofs.YtanihpmgoeadkaaGreat.Gen

/-
  Short names for the steps of a region that draws its order: no condition.
-/
namespace Go.Proofs.YtanihpmgoeadkaaGreat
open Gen
set_option linter.unusedVariables false
theorem zG {α : Type} : (∀ (l : List α) (i : Nat) (h : i < l.toArray.size), l.toArray[i] = l[i]'(by simpa using h)) /\ (∀ (a : α) (l : List α) (i : Nat) (h : i + 1 < (a :: l).length), (a :: l)[i + 1] = l[i]'(by simpa using h)) /\ (∀ (a : α) (l : List α) (h : 0 < (a :: l).length), (a :: l)[0] = a) := ⟨fun _ _ _ => rfl, fun _ _ _ _ => rfl, fun _ _ _ => rfl⟩
theorem zY {α : Type} : (∀ (l : List α) (i : Nat) (h : i < l.toArray.size), l.toArray[i] = l[i]'(by simpa using h)) /\ (∀ (a : α) (l : List α) (i : Nat) (h : i + 1 < (a :: l).length), (a :: l)[i + 1] = l[i]'(by simpa using h)) /\ (∀ (a : α) (l : List α) (h : 0 < (a :: l).length), (a :: l)[0] = a) /\ (∀ (l : List α) (i : Nat) (v : α), l.toArray.setIfInBounds i v = (l.set i v).toArray) /\ (∀ (a v : α) (l : List α), (a :: l).set 0 v = v :: l) /\ (∀ (a v : α) (l : List α) (i : Nat), (a :: l).set (i + 1) v = a :: l.set i v) := ⟨fun _ _ _ => rfl, fun _ _ _ _ => rfl, fun _ _ _ => rfl, fun _ _ _ => by simp, fun _ _ _ => rfl, fun _ _ _ _ => rfl⟩
theorem zX : (∀ (a : Act) (v : Value), a.put none v = a) /\ (∀ (a : Act) (t : Tmp) (v : Value), a.put (some t) v = { a with tmps := a.tmps.setIfInBounds t v }) := ⟨fun _ _ => rfl, fun _ _ _ => rfl⟩
section
variable {P : Program} {md : Region.Mode} {ops : Array Oper} {Q : Go.Exit -> Act -> World -> Prop} {S : World -> Prop} {fuel : Nat} {listed : Array Bool} {a : Act} {w : World}
def ZTk (_ : List Nat) (P : Program) (md : Region.Mode) (ops : Array Oper) (Q : Go.Exit -> Act -> World -> Prop) (S : World -> Prop) (fuel : Nat) (listed : Array Bool) (a : Act) (w : World) : Prop := wpAnyH P md ops Q S fuel listed a w
theorem ztk (is : List Nat) (h : ZTk is P md ops Q S fuel listed a w) : wpAnyH P md ops Q S fuel listed a w := h
theorem zt1 (i : Nat) (h : ZTk [i] P md ops Q S fuel listed a w) : wpAnyH P md ops Q S fuel listed a w := h
theorem zte (h : wpAnyH P md ops Q S fuel listed a w) : ZTk [] P md ops Q S fuel listed a w := h
theorem ztn {i : Nat} {is : List Nat} {oi : Oper} {v : Value} (hi : ops[i]? = some oi := by rfl) (hw : Region.wanted oi (yielded ops a.tmps) = true := by rfl) (hy : ∀ w, S w -> (execOp a.eval oi).run P w = .ok (.value v) w := by (intro w hSw; (try dsimp only at hSw); go_simp<;>with_reducible rfl)) (hS : S w := by assumption) (hs : Region.noSelect ops = true := by kernel_rfl) (hf : Region.free md ops listed i = true := by kernel_rfl) (hr : (Region.ready md ops listed).contains i = true := by kernel_rfl)
    (hQ : ∀ c a w, Q (.panic c) (a.put oi.dst v) w -> Q (.panic c) a w := by exact fun _ _ _ h => h) (h : ZTk is P md ops Q S fuel (listed.setIfInBounds i true) (a.put oi.dst v) w) : ZTk (i :: is) P md ops Q S (fuel + 1) listed a w := wpAnyH_take hi hs hf hr hQ (.inl ⟨hw, hy⟩) hS h
theorem ztu {i : Nat} {is : List Nat} {oi : Oper} (hi : ops[i]? = some oi := by rfl) (hw : Region.wanted oi (yielded ops a.tmps) = false := by rfl) (hS : S w := by assumption) (hs : Region.noSelect ops = true := by kernel_rfl) (hf : Region.free md ops listed i = true := by kernel_rfl) (hr : (Region.ready md ops listed).contains i = true := by kernel_rfl)
    (hQ : ∀ c a w, Q (.panic c) (a.put oi.dst undef) w -> Q (.panic c) a w := by exact fun _ _ _ h => h) (h : ZTk is P md ops Q S fuel (listed.setIfInBounds i true) (a.put oi.dst undef) w) : ZTk (i :: is) P md ops Q S (fuel + 1) listed a w := wpAnyH_take hi hs hf hr hQ (.inr ⟨hw, rfl⟩) hS h
theorem zR1 (i : Nat) {o : Oper} (h : ∀ K' : Act -> World -> Prop, Shut (∀ a w, S w -> (S w -> wpAnyH P md ops Q S fuel (listed.setIfInBounds i true) a w) -> K' a w) -> if Region.wanted o (yielded ops a.tmps) = true then Oper.wp P o a w K' Q else K' (a.put o.dst undef) w) (ho : ops[i]? = some o := by rfl) (hr : Region.ready md ops listed = [i] := by kernel_rfl) : wpAnyH P md ops Q S (fuel + 1) listed a w := wpAnyH_ready hr (by simp) (.cons ho h .nil)
theorem zR2 (i j : Nat) {o o2 : Oper} (h : ∀ K' : Act -> World -> Prop, Shut (∀ a w, S w -> (S w -> wpAnyH P md ops Q S fuel (listed.setIfInBounds i true) a w) -> K' a w) -> if Region.wanted o (yielded ops a.tmps) = true then Oper.wp P o a w K' Q else K' (a.put o.dst undef) w) (h2 : ∀ K' : Act -> World -> Prop, Shut (∀ a w, S w -> (S w -> wpAnyH P md ops Q S fuel (listed.setIfInBounds j true) a w) -> K' a w) -> if Region.wanted o2 (yielded ops a.tmps) = true then Oper.wp P o2 a w K' Q else K' (a.put o2.dst undef) w)
    (ho : ops[i]? = some o := by rfl) (ho2 : ops[j]? = some o2 := by rfl) (hr : Region.ready md ops listed = [i, j] := by kernel_rfl) : wpAnyH P md ops Q S (fuel + 1) listed a w := wpAnyH_ready hr (by simp) (.cons ho h (.cons ho2 h2 .nil))
theorem zR3 (i j k : Nat) {o o2 o3 : Oper} (h : ∀ K' : Act -> World -> Prop, Shut (∀ a w, S w -> (S w -> wpAnyH P md ops Q S fuel (listed.setIfInBounds i true) a w) -> K' a w) -> if Region.wanted o (yielded ops a.tmps) = true then Oper.wp P o a w K' Q else K' (a.put o.dst undef) w) (h2 : ∀ K' : Act -> World -> Prop, Shut (∀ a w, S w -> (S w -> wpAnyH P md ops Q S fuel (listed.setIfInBounds j true) a w) -> K' a w) -> if Region.wanted o2 (yielded ops a.tmps) = true then Oper.wp P o2 a w K' Q else K' (a.put o2.dst undef) w)
    (h3 : ∀ K' : Act -> World -> Prop, Shut (∀ a w, S w -> (S w -> wpAnyH P md ops Q S fuel (listed.setIfInBounds k true) a w) -> K' a w) -> if Region.wanted o3 (yielded ops a.tmps) = true then Oper.wp P o3 a w K' Q else K' (a.put o3.dst undef) w)
    (ho : ops[i]? = some o := by rfl) (ho2 : ops[j]? = some o2 := by rfl) (ho3 : ops[k]? = some o3 := by rfl) (hr : Region.ready md ops listed = [i, j, k] := by kernel_rfl) : wpAnyH P md ops Q S (fuel + 1) listed a w := wpAnyH_ready hr (by simp) (.cons ho h (.cons ho2 h2 (.cons ho3 h3 .nil)))
theorem zdn (h : Q .normal a w) (hr : Region.ready md ops listed = [] := by kernel_rfl) : wpAnyH P md ops (NoPanic Q) S fuel listed a w := wpAnyH_done hr (NoPanic.normal h) _
end
section
variable {P : Program} {md : Region.Mode} {ops : Array Oper} {Q : Go.Exit -> Act -> World -> Prop} {S : World -> Prop} {z fuel : Nat} {listed : Array Bool} {a : Act} {w : World}
def ZPk (_ : List Nat) (P : Program) (md : Region.Mode) (ops : Array Oper) (Q : Go.Exit -> Act -> World -> Prop) (S : World -> Prop) (z fuel : Nat) (listed : Array Bool) (a : Act) (w : World) : Prop := anyUpTo P md ops Q S z fuel listed a w
theorem zpk (is : List Nat) (h : ZPk is P md ops Q S z fuel listed a w) : anyUpTo P md ops Q S z fuel listed a w := h
theorem zp1 (i : Nat) (h : ZPk [i] P md ops Q S z fuel listed a w) : anyUpTo P md ops Q S z fuel listed a w := h
theorem zpe (h : anyUpTo P md ops Q S z fuel listed a w) : ZPk [] P md ops Q S z fuel listed a w := h
theorem zpn {i : Nat} {is : List Nat} {oi : Oper} {v : Value} (hi : ops[i]? = some oi := by rfl) (hw : Region.wanted oi (yielded ops a.tmps) = true := by rfl) (hy : ∀ w, S w -> (execOp a.eval oi).run P w = .ok (.value v) w := by (intro w hSw; (try dsimp only at hSw); go_simp<;>with_reducible rfl)) (hS : S w := by assumption) (hz : waitsForAll md ops z = true := by kernel_rfl) (hs : Region.noSelect ops = true := by kernel_rfl) (hiz : i ≠ z := by decide) (hf : Region.free md ops listed i = true := by kernel_rfl) (hr : (Region.ready md ops listed).contains i = true := by kernel_rfl)
    (hQ : ∀ c a w, Q (.panic c) (a.put oi.dst v) w -> Q (.panic c) a w := by exact fun _ _ _ h => h) (h : ZPk is P md ops Q S z fuel (listed.setIfInBounds i true) (a.put oi.dst v) w) : ZPk (i :: is) P md ops Q S z (fuel + 1) listed a w := upTo_taken hz hi hs hiz hf hr hQ (.inl ⟨hw, hy⟩) hS h
theorem zpu {i : Nat} {is : List Nat} {oi : Oper} (hi : ops[i]? = some oi := by rfl) (hw : Region.wanted oi (yielded ops a.tmps) = false := by rfl) (hS : S w := by assumption) (hz : waitsForAll md ops z = true := by kernel_rfl) (hs : Region.noSelect ops = true := by kernel_rfl) (hiz : i ≠ z := by decide) (hf : Region.free md ops listed i = true := by kernel_rfl) (hr : (Region.ready md ops listed).contains i = true := by kernel_rfl)
    (hQ : ∀ c a w, Q (.panic c) (a.put oi.dst undef) w -> Q (.panic c) a w := by exact fun _ _ _ h => h) (h : ZPk is P md ops Q S z fuel (listed.setIfInBounds i true) (a.put oi.dst undef) w) : ZPk (i :: is) P md ops Q S z (fuel + 1) listed a w := upTo_taken hz hi hs hiz hf hr hQ (.inr ⟨hw, rfl⟩) hS h
end
end Go.Proofs.YtanihpmgoeadkaaGreat

/-
  GroupOk of the specification at this seat: it answers as the program's. No condition but that its lists have at most 1048576 numbers.
-/
namespace Go.Proofs.YtanihpmgoeadkaaGreat.Gen
open Go.ChangeShapes Go.WideShapes Go.ChangeAt Go.RowKit Go.Joins Go.Deep Base
set_option linter.unusedVariables false
set_option linter.unusedSimpArgs false
theorem gokB_no1 {gen rows : Int} {m b o : List Int} (h : memTo m m.length = false) : gokB gen rows m b o = false := by simp [gokB, h]
theorem gokB_no2 {gen rows : Int} {m b o : List Int} (h : numTo b b.length = false) : gokB gen rows m b o = false := by simp [gokB, h]
theorem gokB_no3 {gen rows : Int} {m b o : List Int} (h : numTo o o.length = false) : gokB gen rows m b o = false := by simp [gokB, h]
set_option maxRecDepth 100000 in
set_option maxHeartbeats 6400000 in
theorem specGok_any (gen rows : Int) (A B C : Option Addr) (ca cb cc : Nat) (m b o : List Int) (hl : m.length <= 1048576 /\ b.length <= 1048576 /\ o.length <= 1048576) (w : World) (hA : At w A m) (hB : At w B b) (hC : At w C o) :
    Calls Tryz.prog 77 #[.agg #[.int .i64 gen, .slice A m.length ca, .slice B b.length cb, .slice C o.length cc], .int .i64 rows] w fun e w' => e = .returned (.bool (gokB gen rows m b o)) /\ Below w.heap.size w w' := by
  have HA := hidP hA
  have HB := hidP hB
  have HC := hidP hC
  clear hA hB hC
  by_cases k1 : (b.length : Int) = (m.length : Int)
  case neg =>
    have hF : Hid (gokB gen rows m b o = false) := by show _ = _; simp only [gokB, decide_eq_false k1]; simp
    have e1 : ((b.length : Int) != (m.length : Int)) = true := by simpa using k1
    go_enter Tryz.func77, Tryz.ntmps77
    go_wp2
    go_ret
    exact ⟨by rw [hF.out]; rfl, by repeat (first | exact Below.refl _ _ | assumption | refine via0 (by assumption) ?_ | refine Below.drew ?_ | refine alloc0 ?_ _)⟩
  have e1 : ((b.length : Int) != (m.length : Int)) = false := by simpa using k1
  have e1' : decide ((b.length : Int) = (m.length : Int)) = true := decide_eq_true k1
  have K1 := hidP k1
  clear k1
  by_cases k2 : (o.length : Int) = rows
  case neg =>
    have hF : Hid (gokB gen rows m b o = false) := by show _ = _; simp only [gokB, decide_eq_false k2]; simp
    have e2 : ((o.length : Int) != rows) = true := by simpa using k2
    go_enter Tryz.func77, Tryz.ntmps77
    go_wp2
    go_ret
    exact ⟨by rw [hF.out]; rfl, by repeat (first | exact Below.refl _ _ | assumption | refine via0 (by assumption) ?_ | refine Below.drew ?_ | refine alloc0 ?_ _)⟩
  have e2 : ((o.length : Int) != rows) = false := by simpa using k2
  have e2' : decide ((o.length : Int) = rows) = true := decide_eq_true k2
  have K2 := hidP k2
  clear k2
  cases k3 : inB gen 0 100000
  . have hF : Hid (gokB gen rows m b o = false) := by show _ = _; simp [gokB, k3]
    go_enter Tryz.func77, Tryz.ntmps77
    go_wp2_with (go_at_call 25; refine (in_any _ _ _ _).mono ?_; rw [k3]; rintro e w' ⟨rfl, rfl⟩)
    go_ret
    exact ⟨by rw [hF.out]; rfl, by repeat (first | exact Below.refl _ _ | assumption | refine via0 (by assumption) ?_ | refine Below.drew ?_ | refine alloc0 ?_ _)⟩
  go_enter Tryz.func77, Tryz.ntmps77
  go_wp2_with (go_at_call 25; refine (in_any _ _ _ _).mono ?_; rw [k3]; rintro e w' ⟨rfl, rfl⟩)
  have P0 := Blk.new w 139 #[.int .i64 gen, .slice A m.length ca, .slice B b.length cb, .slice C o.length cc]
  have K3 := hidP k3
  clear e1 e2 k3 e1' e2'
  go_loopw [5] (fun i w' => ∃ (n : Nat), i = .int .i64 (n : Int) /\ n <= m.length /\ Hid (Blk w' w.heap.size 139 #[.int .i64 gen, .slice A m.length ca, .slice B b.length cb, .slice C o.length cc]) /\ Hid (memTo m n = true) /\ Hid (numTo b n = true) /\ Below w.heap.size w w') (fun i _ => m.length - (intOf i).toNat)
  case atStart => exact ⟨0, rfl, by omega, P0, rfl, rfl, by repeat (first | exact Below.refl _ _ | assumption | refine via0 (by assumption) ?_ | refine Below.drew ?_ | refine alloc0 ?_ _)⟩
  case round =>
    obtain ⟨n, rfl, hn, b0, hR, hN, hbl⟩ := hrel
    obtain ⟨u0, u1, u2, u3⟩ := b0.out.row4
    have hszw := b0.out.lt
    by_cases hlt : n < m.length
    . obtain ⟨b1, o1, rfl, hbs, hin⟩ : ∃ b o, A = some ⟨b, o, none⟩ /\ b < w.heap.size /\ In w b o m := by
        rcases HA.out with h | h
        . subst h; simp at hlt
        . exact h
      have hltb : n < b.length := by have := K1.out; omega
      obtain ⟨b2, o2, rfl, hbs2, hin2⟩ : ∃ b' o', B = some ⟨b', o', none⟩ /\ b' < w.heap.size /\ In w b' o' b := by
        rcases HB.out with h | h
        . subst h; simp at hltb
        . exact h
      have c0 := (hin.below hbs hbl).getInt n hlt
      have c1 := (hin2.below hbs2 hbl).getInt n hltb
      have hi0 : (0 : Int) <= (n : Int) := by omega
      have hi1 : (n : Int) < (m.length : Int) := by omega
      have hi2 : (n : Int) < (b.length : Int) := by have := hltb; omega
      cases h1' : inB m[n] 0 3
      . have h1 : Hid (inB m[n] 0 3 = false) := h1'
        have hF : Hid (gokB gen rows m b o = false) := gokB_no1 (memTo_no hlt (by rw [memAt_is hlt, h1']; simp))
        clear h1'
        go_wp2
        refine wp_region_noPanic ?_
        refine wp_region_held_drew (S := (fun w' => w'.cell? ⟨w.heap.size, 1, none⟩ = some (.slice (some ⟨b1, o1, none⟩) m.length ca) /\ w'.cell? ⟨w.heap.size, 2, none⟩ = some (.slice (some ⟨b2, o2, none⟩) b.length cb) /\ w'.cell? ⟨b1, o1 + n, none⟩ = some (.int .i64 m[n]) /\ w'.cell? ⟨b2, o2 + n, none⟩ = some (.int .i64 b[n]))) (by kernel_rfl) ?_ (fun hH => ?_)
        . (refine ⟨?_, ?_, ?_, ?_⟩<;>first | assumption | (simp; done))
        refine ztk [0,1,2,3,4] ?_; repeat (refine ztn (h := ?_); try simp only [zX,zY])
        refine zte ?_
        refine zR1 5 (fun K hK => ?_)
        simp only [zG]
        go_simp
        (go_at_call 25; refine (in_any _ _ _ _).mono ?_; rw [h1.out]; rintro e w' ⟨rfl, rfl⟩)
        refine hK.out _ _ ?_ (fun hH => ?_)
        . (go_split_ands; refine ⟨?_, ?_, ?_, ?_⟩<;>assumption)
        clear hK K
        try simp only [zX,zY]
        refine ztk [6,7,8,9,10,11,12,13,14,15,16,17,18,19,20,21,22,23,24,25,26,27,28,29,30,31,32,33] ?_; repeat ((first | refine ztn (h := ?_) | refine ztu (h := ?_)); try simp only [zX,zY])
        refine zte ?_
        refine zdn ?_
        go_wp2
        go_ret
        exact ⟨by rw [hF.out]; rfl, hbl.drew⟩
      . have h1 : Hid (inB m[n] 0 3 = true) := h1'
        by_cases hz : n = 0
        . have hM : memAt m n = true := by rw [memAt_is hlt, h1']; simp [hz]
          have hd : Hid (decide (0 < n) = false) := decide_eq_false (by omega)
          clear h1' hz
          cases h2' : inB b[n] 0 100000
          . have h2 : Hid (inB b[n] 0 100000 = false) := h2'
            have hF : Hid (gokB gen rows m b o = false) := gokB_no2 (numTo_no hltb h2')
            clear h2' hM
            go_wp2
            refine wp_region_noPanic ?_
            refine wp_region_held_drew (S := (fun w' => w'.cell? ⟨w.heap.size, 1, none⟩ = some (.slice (some ⟨b1, o1, none⟩) m.length ca) /\ w'.cell? ⟨w.heap.size, 2, none⟩ = some (.slice (some ⟨b2, o2, none⟩) b.length cb) /\ w'.cell? ⟨b1, o1 + n, none⟩ = some (.int .i64 m[n]) /\ w'.cell? ⟨b2, o2 + n, none⟩ = some (.int .i64 b[n]))) (by kernel_rfl) ?_ (fun hH => ?_)
            . (refine ⟨?_, ?_, ?_, ?_⟩<;>first | assumption | (simp; done))
            refine ztk [0,1,2,3,4] ?_; repeat (refine ztn (h := ?_); try simp only [zX,zY])
            refine zte ?_
            refine zR1 5 (fun K hK => ?_)
            simp only [zG]
            go_simp
            (go_at_call 25; refine (in_any _ _ _ _).mono ?_; rw [h1.out]; rintro e w' ⟨rfl, rfl⟩)
            refine hK.out _ _ ?_ (fun hH => ?_)
            . (go_split_ands; refine ⟨?_, ?_, ?_, ?_⟩<;>assumption)
            clear hK K
            try simp only [zX,zY]
            refine ztk [6,7,8] ?_; repeat (refine ztn (h := ?_); try simp only [zX,zY])
            refine zte ?_
            refine' wpAnyH_take (i := 9) (v := _) rfl (by kernel_rfl) (by kernel_rfl) (by kernel_rfl) (fun _ _ _ h => h) (Or.inl ⟨by rfl, ?hy19⟩) (by assumption) ?rest19
            case hy19 => (intro w hSw; (try dsimp only at hSw); go_simp<;>(rw [hd.out]<;>with_reducible rfl))
            try simp only [zX,zY]
            refine ztk [10,11,12,13,14,15,16,17,18,19,20,21,22,23,24,25,26,27,28,29,30] ?_; repeat ((first | refine ztn (h := ?_) | refine ztu (h := ?_)); try simp only [zX,zY])
            refine zte ?_
            refine zR1 31 (fun K hK => ?_)
            simp only [zG]
            go_simp
            (go_at_call 25; refine (in_any _ _ _ _).mono ?_; rw [h2.out]; rintro e w' ⟨rfl, rfl⟩)
            refine hK.out _ _ ?_ (fun hH => ?_)
            . (go_split_ands; refine ⟨?_, ?_, ?_, ?_⟩<;>assumption)
            clear hK K
            try simp only [zX,zY]
            refine ztk [32,33] ?_; repeat (refine ztn (h := ?_); try simp only [zX,zY])
            refine zte ?_
            refine zdn ?_
            go_wp2
            go_ret
            exact ⟨by rw [hF.out]; rfl, hbl.drew⟩
          . have h2 : Hid (inB b[n] 0 100000 = true) := h2'
            have hG : Hid (numTo b (n + 1) = true) := by show _ = _; rw [numTo_succ hltb, hN.out, h2']; rfl
            have hF : Hid (memTo m (n + 1) = true) := by show _ = _; rw [memTo_succ, hR.out, hM]; rfl
            clear h2' hM
            go_wp2
            refine wp_region_noPanic ?_
            refine wp_region_held_drew (S := (fun w' => w'.cell? ⟨w.heap.size, 1, none⟩ = some (.slice (some ⟨b1, o1, none⟩) m.length ca) /\ w'.cell? ⟨w.heap.size, 2, none⟩ = some (.slice (some ⟨b2, o2, none⟩) b.length cb) /\ w'.cell? ⟨b1, o1 + n, none⟩ = some (.int .i64 m[n]) /\ w'.cell? ⟨b2, o2 + n, none⟩ = some (.int .i64 b[n]))) (by kernel_rfl) ?_ (fun hH => ?_)
            . (refine ⟨?_, ?_, ?_, ?_⟩<;>first | assumption | (simp; done))
            refine ztk [0,1,2,3,4] ?_; repeat (refine ztn (h := ?_); try simp only [zX,zY])
            refine zte ?_
            refine zR1 5 (fun K hK => ?_)
            simp only [zG]
            go_simp
            (go_at_call 25; refine (in_any _ _ _ _).mono ?_; rw [h1.out]; rintro e w' ⟨rfl, rfl⟩)
            refine hK.out _ _ ?_ (fun hH => ?_)
            . (go_split_ands; refine ⟨?_, ?_, ?_, ?_⟩<;>assumption)
            clear hK K
            try simp only [zX,zY]
            refine ztk [6,7,8] ?_; repeat (refine ztn (h := ?_); try simp only [zX,zY])
            refine zte ?_
            refine' wpAnyH_take (i := 9) (v := _) rfl (by kernel_rfl) (by kernel_rfl) (by kernel_rfl) (fun _ _ _ h => h) (Or.inl ⟨by rfl, ?hy39⟩) (by assumption) ?rest39
            case hy39 => (intro w hSw; (try dsimp only at hSw); go_simp<;>(rw [hd.out]<;>with_reducible rfl))
            try simp only [zX,zY]
            refine ztk [10,11,12,13,14,15,16,17,18,19,20,21,22,23,24,25,26,27,28,29,30] ?_; repeat ((first | refine ztn (h := ?_) | refine ztu (h := ?_)); try simp only [zX,zY])
            refine zte ?_
            refine zR1 31 (fun K hK => ?_)
            simp only [zG]
            go_simp
            (go_at_call 25; refine (in_any _ _ _ _).mono ?_; rw [h2.out]; rintro e w' ⟨rfl, rfl⟩)
            refine hK.out _ _ ?_ (fun hH => ?_)
            . (go_split_ands; refine ⟨?_, ?_, ?_, ?_⟩<;>assumption)
            clear hK K
            try simp only [zX,zY]
            refine ztk [32,33] ?_; repeat (refine ztn (h := ?_); try simp only [zX,zY])
            refine zte ?_
            refine zdn ?_
            go_wp2
            exact ⟨⟨n + 1, by go_num, by omega, b0.out.drew, hF, hG, hbl.drew⟩, by simp [intOf]; omega⟩
        . obtain ⟨p, hpn⟩ : ∃ p, n = p + 1 := ⟨n - 1, by omega⟩
          have hpl : p < m.length := by omega
          have p1 := (hin.below hbs hbl).getInt p hpl
          have hd : Hid (decide (0 < n) = true) := decide_eq_true (by omega)
          have j0 : (0 : Int) <= (p : Int) := by omega
          have j1 : (p : Int) < (m.length : Int) := by omega
          have jw : Hid (IntKind.i64.wrap ((n : Int) - 1) = (p : Int)) := by
            show IntKind.i64.wrap ((n : Int) - 1) = (p : Int)
            rw [IntKind.wrap_i64]; omega
          have hpe : m.getD (n - 1) 0 = m[p] := by subst hpn; simp [hpl]
          by_cases h4 : m[p] < m[n]
          . have hM : memAt m n = true := by rw [memAt_is hlt, h1', hpe]; simp [h4]
            have hg : Hid (decide (m[n] <= m[p]) = false) := decide_eq_false (by omega)
            clear h1' hz hpn h4 hpe
            cases h2' : inB b[n] 0 100000
            . have h2 : Hid (inB b[n] 0 100000 = false) := h2'
              have hF : Hid (gokB gen rows m b o = false) := gokB_no2 (numTo_no hltb h2')
              clear h2' hM
              go_wp2
              refine wp_region_noPanic ?_
              refine wp_region_held_drew (S := (fun w' => w'.cell? ⟨w.heap.size, 1, none⟩ = some (.slice (some ⟨b1, o1, none⟩) m.length ca) /\ w'.cell? ⟨w.heap.size, 2, none⟩ = some (.slice (some ⟨b2, o2, none⟩) b.length cb) /\ w'.cell? ⟨b1, o1 + n, none⟩ = some (.int .i64 m[n]) /\ w'.cell? ⟨b2, o2 + n, none⟩ = some (.int .i64 b[n]) /\ w'.cell? ⟨b1, o1 + p, none⟩ = some (.int .i64 m[p]))) (by kernel_rfl) ?_ (fun hH => ?_)
              . (refine ⟨?_, ?_, ?_, ?_, ?_⟩<;>first | assumption | (simp; done))
              refine ztk [0,1,2,3,4] ?_; repeat (refine ztn (h := ?_); try simp only [zX,zY])
              refine zte ?_
              refine zR1 5 (fun K hK => ?_)
              simp only [zG]
              go_simp
              (go_at_call 25; refine (in_any _ _ _ _).mono ?_; rw [h1.out]; rintro e w' ⟨rfl, rfl⟩)
              refine hK.out _ _ ?_ (fun hH => ?_)
              . (go_split_ands; refine ⟨?_, ?_, ?_, ?_, ?_⟩<;>assumption)
              clear hK K
              try simp only [zX,zY]
              refine ztk [6,7,8] ?_; repeat (refine ztn (h := ?_); try simp only [zX,zY])
              refine zte ?_
              refine' wpAnyH_take (i := 9) (v := _) rfl (by kernel_rfl) (by kernel_rfl) (by kernel_rfl) (fun _ _ _ h => h) (Or.inl ⟨by rfl, ?hy59⟩) (by assumption) ?rest59
              case hy59 => (intro w hSw; (try dsimp only at hSw); go_simp<;>(rw [hd.out]<;>with_reducible rfl))
              try simp only [zX,zY]
              refine ztk [10,11,12,13] ?_; repeat (refine ztn (h := ?_); try simp only [zX,zY])
              refine zte ?_
              refine' wpAnyH_take (i := 14) (v := _) rfl (by kernel_rfl) (by kernel_rfl) (by kernel_rfl) (fun _ _ _ h => h) (Or.inl ⟨by rfl, ?hy64⟩) (by assumption) ?rest64
              case hy64 => (intro w hSw; (try dsimp only at hSw); go_simp<;>(rw [jw.out]<;>with_reducible rfl))
              try simp only [zX,zY]
              refine ztk [15,16,17,18,19,20,21] ?_; repeat (refine ztn (h := ?_); try simp only [zX,zY])
              refine zte ?_
              refine' wpAnyH_take (i := 22) (v := _) rfl (by kernel_rfl) (by kernel_rfl) (by kernel_rfl) (fun _ _ _ h => h) (Or.inl ⟨by rfl, ?hy72⟩) (by assumption) ?rest72
              case hy72 => (intro w hSw; (try dsimp only at hSw); go_simp<;>(rw [hg.out]<;>with_reducible rfl))
              try simp only [zX,zY]
              refine ztk [23,24,25,26,27,28,29,30] ?_; repeat (refine ztn (h := ?_); try simp only [zX,zY])
              refine zte ?_
              refine zR1 31 (fun K hK => ?_)
              simp only [zG]
              go_simp
              (go_at_call 25; refine (in_any _ _ _ _).mono ?_; rw [h2.out]; rintro e w' ⟨rfl, rfl⟩)
              refine hK.out _ _ ?_ (fun hH => ?_)
              . (go_split_ands; refine ⟨?_, ?_, ?_, ?_, ?_⟩<;>assumption)
              clear hK K
              try simp only [zX,zY]
              refine ztk [32,33] ?_; repeat (refine ztn (h := ?_); try simp only [zX,zY])
              refine zte ?_
              refine zdn ?_
              go_wp2
              go_ret
              exact ⟨by rw [hF.out]; rfl, hbl.drew⟩
            . have h2 : Hid (inB b[n] 0 100000 = true) := h2'
              have hG : Hid (numTo b (n + 1) = true) := by show _ = _; rw [numTo_succ hltb, hN.out, h2']; rfl
              have hF : Hid (memTo m (n + 1) = true) := by show _ = _; rw [memTo_succ, hR.out, hM]; rfl
              clear h2' hM
              go_wp2
              refine wp_region_noPanic ?_
              refine wp_region_held_drew (S := (fun w' => w'.cell? ⟨w.heap.size, 1, none⟩ = some (.slice (some ⟨b1, o1, none⟩) m.length ca) /\ w'.cell? ⟨w.heap.size, 2, none⟩ = some (.slice (some ⟨b2, o2, none⟩) b.length cb) /\ w'.cell? ⟨b1, o1 + n, none⟩ = some (.int .i64 m[n]) /\ w'.cell? ⟨b2, o2 + n, none⟩ = some (.int .i64 b[n]) /\ w'.cell? ⟨b1, o1 + p, none⟩ = some (.int .i64 m[p]))) (by kernel_rfl) ?_ (fun hH => ?_)
              . (refine ⟨?_, ?_, ?_, ?_, ?_⟩<;>first | assumption | (simp; done))
              refine ztk [0,1,2,3,4] ?_; repeat (refine ztn (h := ?_); try simp only [zX,zY])
              refine zte ?_
              refine zR1 5 (fun K hK => ?_)
              simp only [zG]
              go_simp
              (go_at_call 25; refine (in_any _ _ _ _).mono ?_; rw [h1.out]; rintro e w' ⟨rfl, rfl⟩)
              refine hK.out _ _ ?_ (fun hH => ?_)
              . (go_split_ands; refine ⟨?_, ?_, ?_, ?_, ?_⟩<;>assumption)
              clear hK K
              try simp only [zX,zY]
              refine ztk [6,7,8] ?_; repeat (refine ztn (h := ?_); try simp only [zX,zY])
              refine zte ?_
              refine' wpAnyH_take (i := 9) (v := _) rfl (by kernel_rfl) (by kernel_rfl) (by kernel_rfl) (fun _ _ _ h => h) (Or.inl ⟨by rfl, ?hy91⟩) (by assumption) ?rest91
              case hy91 => (intro w hSw; (try dsimp only at hSw); go_simp<;>(rw [hd.out]<;>with_reducible rfl))
              try simp only [zX,zY]
              refine ztk [10,11,12,13] ?_; repeat (refine ztn (h := ?_); try simp only [zX,zY])
              refine zte ?_
              refine' wpAnyH_take (i := 14) (v := _) rfl (by kernel_rfl) (by kernel_rfl) (by kernel_rfl) (fun _ _ _ h => h) (Or.inl ⟨by rfl, ?hy96⟩) (by assumption) ?rest96
              case hy96 => (intro w hSw; (try dsimp only at hSw); go_simp<;>(rw [jw.out]<;>with_reducible rfl))
              try simp only [zX,zY]
              refine ztk [15,16,17,18,19,20,21] ?_; repeat (refine ztn (h := ?_); try simp only [zX,zY])
              refine zte ?_
              refine' wpAnyH_take (i := 22) (v := _) rfl (by kernel_rfl) (by kernel_rfl) (by kernel_rfl) (fun _ _ _ h => h) (Or.inl ⟨by rfl, ?hy104⟩) (by assumption) ?rest104
              case hy104 => (intro w hSw; (try dsimp only at hSw); go_simp<;>(rw [hg.out]<;>with_reducible rfl))
              try simp only [zX,zY]
              refine ztk [23,24,25,26,27,28,29,30] ?_; repeat (refine ztn (h := ?_); try simp only [zX,zY])
              refine zte ?_
              refine zR1 31 (fun K hK => ?_)
              simp only [zG]
              go_simp
              (go_at_call 25; refine (in_any _ _ _ _).mono ?_; rw [h2.out]; rintro e w' ⟨rfl, rfl⟩)
              refine hK.out _ _ ?_ (fun hH => ?_)
              . (go_split_ands; refine ⟨?_, ?_, ?_, ?_, ?_⟩<;>assumption)
              clear hK K
              try simp only [zX,zY]
              refine ztk [32,33] ?_; repeat (refine ztn (h := ?_); try simp only [zX,zY])
              refine zte ?_
              refine zdn ?_
              go_wp2
              exact ⟨⟨n + 1, by go_num, by omega, b0.out.drew, hF, hG, hbl.drew⟩, by simp [intOf]; omega⟩
          . have hF : Hid (gokB gen rows m b o = false) := gokB_no1 (memTo_no hlt (by rw [memAt_is hlt, hpe]; simp [hz, h4]))
            have hg : Hid (decide (m[n] <= m[p]) = true) := decide_eq_true (by omega)
            clear h1' hz hpn h4 hpe
            go_wp2
            refine wp_region_noPanic ?_
            refine wp_region_held_drew (S := (fun w' => w'.cell? ⟨w.heap.size, 1, none⟩ = some (.slice (some ⟨b1, o1, none⟩) m.length ca) /\ w'.cell? ⟨w.heap.size, 2, none⟩ = some (.slice (some ⟨b2, o2, none⟩) b.length cb) /\ w'.cell? ⟨b1, o1 + n, none⟩ = some (.int .i64 m[n]) /\ w'.cell? ⟨b2, o2 + n, none⟩ = some (.int .i64 b[n]) /\ w'.cell? ⟨b1, o1 + p, none⟩ = some (.int .i64 m[p]))) (by kernel_rfl) ?_ (fun hH => ?_)
            . (refine ⟨?_, ?_, ?_, ?_, ?_⟩<;>first | assumption | (simp; done))
            refine ztk [0,1,2,3,4] ?_; repeat (refine ztn (h := ?_); try simp only [zX,zY])
            refine zte ?_
            refine zR1 5 (fun K hK => ?_)
            simp only [zG]
            go_simp
            (go_at_call 25; refine (in_any _ _ _ _).mono ?_; rw [h1.out]; rintro e w' ⟨rfl, rfl⟩)
            refine hK.out _ _ ?_ (fun hH => ?_)
            . (go_split_ands; refine ⟨?_, ?_, ?_, ?_, ?_⟩<;>assumption)
            clear hK K
            try simp only [zX,zY]
            refine ztk [6,7,8] ?_; repeat (refine ztn (h := ?_); try simp only [zX,zY])
            refine zte ?_
            refine' wpAnyH_take (i := 9) (v := _) rfl (by kernel_rfl) (by kernel_rfl) (by kernel_rfl) (fun _ _ _ h => h) (Or.inl ⟨by rfl, ?hy123⟩) (by assumption) ?rest123
            case hy123 => (intro w hSw; (try dsimp only at hSw); go_simp<;>(rw [hd.out]<;>with_reducible rfl))
            try simp only [zX,zY]
            refine ztk [10,11,12,13] ?_; repeat (refine ztn (h := ?_); try simp only [zX,zY])
            refine zte ?_
            refine' wpAnyH_take (i := 14) (v := _) rfl (by kernel_rfl) (by kernel_rfl) (by kernel_rfl) (fun _ _ _ h => h) (Or.inl ⟨by rfl, ?hy128⟩) (by assumption) ?rest128
            case hy128 => (intro w hSw; (try dsimp only at hSw); go_simp<;>(rw [jw.out]<;>with_reducible rfl))
            try simp only [zX,zY]
            refine ztk [15,16,17,18,19,20,21] ?_; repeat (refine ztn (h := ?_); try simp only [zX,zY])
            refine zte ?_
            refine' wpAnyH_take (i := 22) (v := _) rfl (by kernel_rfl) (by kernel_rfl) (by kernel_rfl) (fun _ _ _ h => h) (Or.inl ⟨by rfl, ?hy136⟩) (by assumption) ?rest136
            case hy136 => (intro w hSw; (try dsimp only at hSw); go_simp<;>(rw [hg.out]<;>with_reducible rfl))
            try simp only [zX,zY]
            refine ztk [23,24,25,26,27,28,29,30,31,32,33] ?_; repeat ((first | refine ztn (h := ?_) | refine ztu (h := ?_)); try simp only [zX,zY])
            refine zte ?_
            refine zdn ?_
            go_wp2
            go_ret
            exact ⟨by rw [hF.out]; rfl, hbl.drew⟩
    . obtain rfl : n = m.length := by omega
      have hN' : Hid (numTo b b.length = true) := by show _ = _; have := K1.out; rw [show b.length = m.length by omega]; exact hN.out
      have b0' : Hid (Blk wr w.heap.size 139 #[.int .i64 gen, .slice A m.length ca, .slice B b.length cb, .slice C o.length cc]) := b0
      go_wp2
      go_loopw [6] (fun i w' => ∃ (k : Nat), i = .int .i64 (k : Int) /\ k <= o.length /\ w' = wr /\ Hid (numTo o k = true)) (fun i _ => o.length - (intOf i).toNat)
      case atStart => exact ⟨0, rfl, by omega, rfl, rfl⟩
      case round =>
        rename_i wr2 _
        obtain ⟨k, rfl, hk, rfl, hO⟩ := hrel
        by_cases hlk : k < o.length
        . obtain ⟨b3, o3, rfl, hbs3, hin3⟩ : ∃ b' o', C = some ⟨b', o', none⟩ /\ b' < w.heap.size /\ In w b' o' o := by
            rcases HC.out with h | h
            . subst h; simp at hlk
            . exact h
          have c3 := (hin3.below hbs3 hbl).getInt k hlk
          have hi0 : (0 : Int) <= (k : Int) := by omega
          have hi1 : (k : Int) < (o.length : Int) := by omega
          cases hx : inB o[k] 0 100000
          . have hF : Hid (gokB gen rows m b o = false) := gokB_no3 (numTo_no hlk hx)
            go_wp2_with (go_at_call 25; refine (in_any _ _ _ _).mono ?_; rw [hx]; rintro e w' ⟨rfl, rfl⟩)
            go_ret
            exact ⟨by rw [hF.out]; rfl, hbl⟩
          . have hF : Hid (numTo o (k + 1) = true) := by show _ = _; rw [numTo_succ hlk, hO.out, hx]; rfl
            go_wp2_with (go_at_call 25; refine (in_any _ _ _ _).mono ?_; rw [hx]; rintro e w' ⟨rfl, rfl⟩)
            exact ⟨⟨k + 1, by go_num, by omega, by first | rfl | trivial, hF⟩, by simp [intOf]; omega⟩
        . obtain rfl : k = o.length := by omega
          have hF : Hid (gokB gen rows m b o = true) := by
            show _ = _
            unfold gokB
            rw [K3.out, hR.out, decide_eq_true K1.out, hN'.out, decide_eq_true K2.out, hO.out]; rfl
          go_wp2
          go_ret
          exact ⟨by rw [hF.out]; rfl, hbl⟩
end Go.Proofs.YtanihpmgoeadkaaGreat.Gen

/-
  The laws' toItem, toItemS and toRow: a row in new memory that holds the same items. No condition but that the items are at most 1048576.
-/
namespace Go.Proofs.YtanihpmgoeadkaaGreat.Items
open Go.ChangeShapes Go.WideShapes Go.ChangeAt Go.RowKit Base
set_option linter.unusedVariables false
theorem toItem_any (off who time : Int) (k t : ByteArray) (w : World) :
    Calls Tryz.prog 205 #[.agg #[.int .i64 off, .string k, .string t, .int .i64 who, .int .i64 time]] w fun e w' => e = .returned (.agg #[.int .i64 off, .string k, .string t, .int .i64 who, .int .i64 time]) /\ Below w.heap.size w w' := by
  go_enter Tryz.func205, Tryz.ntmps205
  go_wp2
  exact bodyPost_ret (v := .agg #[.int .i64 off, .string k, .string t, .int .i64 who, .int .i64 time]) (by simp [results, Tryz.results205, go_sem]) rfl ⟨rfl, by repeat (first | exact Below.refl _ _ | refine via0 (by assumption) ?_ | refine Below.drew ?_ | refine alloc0 ?_ _)⟩
def zeroItem : Value := .agg #[.int .i64 0, .string ⟨#[]⟩, .string ⟨#[]⟩, .int .i64 0, .int .i64 0]
def zeros (n : Nat) : Array Value := madeCells zeroItem.cells (n * 5)
theorem infoItem : (Tryz.prog.info? 199).map (fun i => (i.zero, i.size, i.bytes)) = some (some zeroItem, 5, 56) := by kernel_rfl
theorem make_items (n : Nat) (hn : n <= 1048576) (w : World) :
    (Instr.makeSlice 134 (.int .i64 (n : Int)) (.int .i64 (n : Int))).run Tryz.prog w = .ok (.slice (some ⟨w.heap.size, 0, none⟩) n n) (w.alloc (.cells (zeros n) 199)) := by
  have h := infoItem
  cases hi : Tryz.prog.info? 199 with
  | none => rw [hi] at h; simp at h
  | some i =>
    rw [hi] at h
    simp only [Option.map_some, Option.some.injEq, Prod.mk.injEq] at h
    obtain ⟨hz, hs, hb⟩ := h
    have r := run_make (P := Tryz.prog) w 134 199 i zeroItem Tryz.underlying134 hi hz .i64 .i64 n n (by omega) (Int.le_refl _) (by rw [hb]; omega) (by omega)
    rw [r, hs]
    simp [zeros]
theorem zeros_size (n : Nat) : (zeros n).size = n * 5 := size_madeCells _ _
theorem rangeAt_append {w : World} {b o : Nat} {xs ys : List Value} (h1 : w.rangeAt b o xs) (h2 : w.rangeAt b (o + xs.length) ys) : w.rangeAt b o (xs ++ ys) := fun j v hv => by
  by_cases hj : j < xs.length
  . exact h1 j v (by rwa [List.getElem?_append_left hj] at hv)
  . rw [List.getElem?_append_right (by omega)] at hv
    have := h2 (j - xs.length) v hv
    have e : o + xs.length + (j - xs.length) = o + j := by omega
    rwa [e] at this
theorem there_below {w w' : World} {b o n : Nat} (h : w.there b o n) (hb : b < w.heap.size) (hw : Below w.heap.size w w') : w'.there b o n := fun j hj => by
  rw [hw.cell (p := ⟨b, o + j, none⟩) hb, hw.frozen (p := ⟨b, o + j, none⟩) hb]
  exact h j hj
theorem store_item {w : World} {b : Nat} {l : List It} {n : Nat} (hin : In w b 0 (l.take n)) (hth : w.there b 0 (l.length * 5)) (hn : n < l.length) :
    In (w.setCells b (n * 5) l[n].cs) b 0 (l.take (n + 1)) /\ (w.setCells b (n * 5) l[n].cs).there b 0 (l.length * 5) := by
  have hlen : (flat (l.take n)).length = n * 5 := by rw [flat_length, List.length_take]; omega
  refine ⟨?_, World.there_setCells hth _ _ _⟩
  unfold In
  rw [List.take_succ_eq_append_getElem hn, flat_append, flat_one]
  refine rangeAt_append (World.rangeAt_setCells_apart hin _ _ _ (.inr (.inl (by rw [hlen]; omega)))) ?_
  rw [hlen, Nat.zero_add]
  refine World.rangeAt_setCells_same _ _ _ _ fun j hj => ?_
  have hj' : j < 5 := hj
  have := hth (n * 5 + j) (by omega)
  rwa [Nat.zero_add] at this
theorem made_there (w : World) (n : Nat) : (w.alloc (.cells (zeros n) 199)).there w.heap.size 0 (n * 5) := fun j hj => by
  have : j < (zeros n).size := by rw [zeros_size]; exact hj
  simp [this]
theorem toItemS_any (A : Option Addr) (cap : Nat) (l : List It) (hl : l.length <= 1048576) (w : World)
    (hA : l = [] ∨ ∃ b o, A = some ⟨b, o, none⟩ /\ b < w.heap.size /\ In w b o l) :
    Calls Tryz.prog 186 #[.slice A l.length cap] w fun e w' => e = .returned (.slice (some ⟨w.heap.size, 0, none⟩) l.length l.length) /\ Below w.heap.size w w' /\ w.heap.size < w'.heap.size /\ In w' w.heap.size 0 l /\ w'.there w.heap.size 0 (l.length * 5) := by
  have HA : Hid (l = [] ∨ ∃ b o, A = some ⟨b, o, none⟩ /\ b < w.heap.size /\ In w b o l) := hA
  clear hA
  have hmk := make_items l.length hl
  go_enter Tryz.func186, Tryz.ntmps186
  go_wp2
  go_loopw [4] (fun i w' => ∃ (n : Nat), i = .int .i64 (n : Int) /\ n <= l.length /\ Below w.heap.size w w' /\ w.heap.size < w'.heap.size /\ Hid (In w' w.heap.size 0 (l.take n)) /\ Hid (w'.there w.heap.size 0 (l.length * 5))) (fun i _ => l.length - (intOf i).toNat)
  case atStart => exact ⟨0, rfl, by omega, by repeat (first | exact Below.refl _ _ | refine via0 (by assumption) ?_ | refine Below.drew ?_ | refine alloc0 ?_ _), by simp, fun j v hv => by simp [flat] at hv, made_there w _⟩
  case round =>
    obtain ⟨n, rfl, hn, hbl, hsz, hin, hth⟩ := hrel
    by_cases hlt : n < l.length
    . obtain ⟨b, o, rfl, hbs, hIn⟩ : ∃ b o, A = some ⟨b, o, none⟩ /\ b < w.heap.size /\ In w b o l := by
        rcases HA.out with h | h
        . subst h; simp at hlt
        . exact h
      obtain ⟨hc0, hc1, hc2, hc3, hc4⟩ := (hIn.below hbs hbl).get n hlt
      have hT : ∀ f, f < 5 -> (∃ v, wr.cell? ⟨w.heap.size, n * 5 + f, none⟩ = some v) /\ wr.frozen? ⟨w.heap.size, n * 5 + f, none⟩ = false := fun f hf => by
        have := hth.out (n * 5 + f) (by omega)
        rw [Nat.zero_add] at this
        exact ⟨Option.isSome_iff_exists.1 this.1, this.2⟩
      obtain ⟨⟨v0, d0⟩, f0⟩ := hT 0 (by omega)
      rw [Nat.add_zero] at d0 f0
      obtain ⟨⟨v1, d1⟩, f1⟩ := hT 1 (by omega)
      obtain ⟨⟨v2, d2⟩, f2⟩ := hT 2 (by omega)
      obtain ⟨⟨v3, d3⟩, f3⟩ := hT 3 (by omega)
      obtain ⟨⟨v4, d4⟩, f4⟩ := hT 4 (by omega)
      clear hT
      go_wp2_with (go_at_call 205; refine (toItem_any _ _ _ _ _ _).mono ?_; rintro e w1 ⟨rfl, g1⟩; obtain ⟨k1, m1⟩ := bcell g1; have s1 := g1.size)
      have hst := store_item (hin.out.below hsz g1) (there_below hth.out hsz g1) hlt
      refine ⟨⟨n + 1, by go_num, by omega, ?_, by simp; omega, hst.1, hst.2⟩, by simp [intOf]; omega⟩
      exact (((((via0 g1 hbl).setCell (Nat.le_refl _) _).setCell (Nat.le_refl _) _).setCell (Nat.le_refl _) _).setCell (Nat.le_refl _) _).setCell (Nat.le_refl _) _
    . have e : l.take n = l := List.take_of_length_le (by omega)
      go_wp2
      go_ret
      exact ⟨rfl, hbl, hsz, by have := hin.out; rwa [e] at this, hth.out⟩
theorem In.set {w : World} {b o : Nat} {l : List It} (h : In w b o l) (p : Addr) (v : Value) (hp : p.block ≠ b) : In (w.setCell p v) b o l := fun j u hu => by
  rw [World.cell?_setCell_other (h := fun e => hp (by rw [e]))]; exact h j u hu
theorem there_set {w : World} {b o n : Nat} (h : w.there b o n) (b' o' : Nat) (v : Value) : (w.setCell ⟨b', o', none⟩ v).there b o n := World.there_setCells h b' o' [v]
theorem toRow_any (start next : Int) (A : Option Addr) (cap : Nat) (l : List It) (hl : l.length <= 1048576) (w : World)
    (hA : l = [] ∨ ∃ b o, A = some ⟨b, o, none⟩ /\ b < w.heap.size /\ In w b o l) :
    Calls Tryz.prog 136 #[.agg #[.int .i64 start, .int .i64 next, .slice A l.length cap]] w
      fun e w' => ∃ b, e = .returned (.agg #[.int .i64 start, .int .i64 next, .slice (some ⟨b, 0, none⟩) l.length l.length]) /\ Below w.heap.size w w' /\ w.heap.size <= b /\ b < w'.heap.size /\ In w' b 0 l /\ w'.there b 0 (l.length * 5) := by
  have hA' : ∀ W : World, Below w.heap.size w W -> l = [] ∨ ∃ b o, A = some ⟨b, o, none⟩ /\ b < W.heap.size /\ In W b o l := fun W hW => by
    rcases hA with h | ⟨b, o, h1, h2, h3⟩
    . exact .inl h
    . exact .inr ⟨b, o, h1, Nat.lt_of_lt_of_le h2 hW.size, h3.below h2 hW⟩
  have HA : Hid (∀ W : World, Below w.heap.size w W -> l = [] ∨ ∃ b o, A = some ⟨b, o, none⟩ /\ b < W.heap.size /\ In W b o l) := hA'
  clear hA hA'
  go_enter Tryz.func136, Tryz.ntmps136
  go_wp2_with (go_at_call 186; refine (toItemS_any A cap l hl _ (HA.out _ ?_)).mono ?_; (repeat (first | exact Below.refl _ _ | refine via0 (by assumption) ?_ | refine Below.drew ?_ | refine alloc0 ?_ _)); rintro e w1 ⟨rfl, g1, s1, i1, t1⟩; obtain ⟨k1, m1⟩ := bcell g1)
  have i2 : In w1 (w.heap.size + 1 + 1 + 1) 0 l := by simpa using i1
  have t2 : w1.there (w.heap.size + 1 + 1 + 1) 0 (l.length * 5) := by simpa using t1
  have s2 : w.heap.size + 1 + 1 + 1 < w1.heap.size := by simpa using s1
  have g2 : Below w.heap.size w w1 := via0 g1 (by repeat (first | exact Below.refl _ _ | refine via0 (by assumption) ?_ | refine Below.drew ?_ | refine alloc0 ?_ _))
  refine bodyPost_ret (v := .agg #[.int .i64 start, .int .i64 next, .slice (some ⟨w.heap.size + 1 + 1 + 1, 0, none⟩) l.length l.length]) (by simp [results, Tryz.results136, go_sem, k1]) rfl ⟨w.heap.size + 1 + 1 + 1, rfl, ?_, by omega, by simp; omega, ?_, ?_⟩
  . exact ((((g2.setCell (by show _ <= w.heap.size + 1 + 1; omega) _).setCell (by show _ <= w.heap.size + 1; omega) _).setCell (by show _ <= w.heap.size + 1; omega) _).setCell (by show _ <= w.heap.size + 1; omega) _)
  . exact (((i2.set _ _ (by simp)).set _ _ (by simp)).set _ _ (by simp)).set _ _ (by simp)
  . exact there_set (there_set (there_set (there_set t2 _ _ _) _ _ _) _ _ _) _ _ _
end Go.Proofs.YtanihpmgoeadkaaGreat.Items

/-
  The laws' markItemS, markRow, heldItemS and heldRow: marks are laid into one block alone, and are found there again. No condition but that the items are at most 1048576.
-/
namespace Go.Proofs.YtanihpmgoeadkaaGreat.Items
open Go.ChangeShapes Go.WideShapes Go.ChangeAt Go.RowKit Base
set_option linter.unusedVariables false
structure Only (b : Nat) (w w' : World) : Prop where
  os : w'.os = w.os
  tape : w'.tape = w.tape
  output : w'.output = w.output
  size : w.heap.size <= w'.heap.size
  block : ∀ k, k < w.heap.size -> k ≠ b -> w'.heap[k]? = w.heap[k]?
theorem Only.refl (b : Nat) (w : World) : Only b w w := ⟨rfl, rfl, rfl, Nat.le_refl _, fun _ _ _ => rfl⟩
theorem Only.set {b : Nat} {w w1 : World} (h : Only b w w1) (o : Nat) (v : Value) : Only b w (w1.setCell ⟨b, o, none⟩ v) :=
  ⟨h.os, h.tape, h.output, by simpa using h.size, fun i hi hb => (Below.heap_setCell w1 ⟨b, o, none⟩ v i hb).trans (h.block i hi hb)⟩
def markI (z : Int) : It := ⟨z, markZ (z + 1), markZ (z + 2), z + 3, z + 4⟩
def marks (n : Nat) (z : Int) : List It := (List.range n).map fun (i : Nat) => markI (z + (i : Int) * 5)
theorem rangeAt_below {w w' : World} {b o : Nat} {cs : List Value} (h : w.rangeAt b o cs) (hb : b < w.heap.size) (hw : Below w.heap.size w w') : w'.rangeAt b o cs :=
  fun j v hv => (hw.cell (p := ⟨b, o + j, none⟩) hb).trans (h j v hv)
theorem call {w w' : World} {b o m : Nat} {cs : List Value} (h : w.rangeAt b o cs /\ w.there b o m /\ b < w.heap.size) (k : Below w.heap.size w w') : w'.rangeAt b o cs /\ w'.there b o m /\ b < w'.heap.size :=
  ⟨rangeAt_below h.1 h.2.2 k, there_below h.2.1 h.2.2 k, Nat.lt_of_lt_of_le h.2.2 k.size⟩
end Go.Proofs.YtanihpmgoeadkaaGreat.Items

/-
  The laws' eqItem, eqItemS and eqRow: what holds the same items is told alike. No condition.
-/
namespace Go.Proofs.YtanihpmgoeadkaaGreat.Items
open Go.ChangeShapes Go.WideShapes Go.ChangeAt Go.RowKit Base
set_option linter.unusedVariables false
theorem eqItem_same (off who time : Int) (k t : ByteArray) (w : World) :
    Calls Tryz.prog 211 #[.agg #[.int .i64 off, .string k, .string t, .int .i64 who, .int .i64 time], .agg #[.int .i64 off, .string k, .string t, .int .i64 who, .int .i64 time]] w fun e w' => e = .returned (.bool true) /\ Below w.heap.size w w' := by
  go_enter Tryz.func211, Tryz.ntmps211
  go_wp2
  go_ret
  exact ⟨rfl, by repeat (first | exact Below.refl _ _ | refine via0 (by assumption) ?_ | refine Below.drew ?_ | refine alloc0 ?_ _)⟩
theorem eqItemS_same (A A' : Option Addr) (cap cap' : Nat) (l : List It) (hl : l.length <= 9223372036854775807) (w : World)
    (hA : l = [] ∨ ∃ b o, A = some ⟨b, o, none⟩ /\ b < w.heap.size /\ In w b o l) (hA' : l = [] ∨ ∃ b o, A' = some ⟨b, o, none⟩ /\ b < w.heap.size /\ In w b o l) :
    Calls Tryz.prog 202 #[.slice A l.length cap, .slice A' l.length cap'] w fun e w' => e = .returned (.bool true) /\ Below w.heap.size w w' := by
  have HA : Hid (l = [] ∨ ∃ b o, A = some ⟨b, o, none⟩ /\ b < w.heap.size /\ In w b o l) := hA
  have HA' : Hid (l = [] ∨ ∃ b o, A' = some ⟨b, o, none⟩ /\ b < w.heap.size /\ In w b o l) := hA'
  clear hA hA'
  go_enter Tryz.func202, Tryz.ntmps202
  go_wp2
  go_loopw [5] (fun i w' => ∃ (n : Nat), i = .int .i64 (n : Int) /\ n <= l.length /\ Below w.heap.size w w') (fun i _ => l.length - (intOf i).toNat)
  case atStart => exact ⟨0, rfl, by omega, Below.refl _ _⟩
  case round =>
    obtain ⟨n, rfl, hn, hbl⟩ := hrel
    by_cases hlt : n < l.length
    . obtain ⟨b, o, rfl, hbs, hin⟩ : ∃ b o, A = some ⟨b, o, none⟩ /\ b < w.heap.size /\ In w b o l := by
        rcases HA.out with h | h
        . subst h; simp at hlt
        . exact h
      obtain ⟨b', o', rfl, hbs', hin'⟩ : ∃ b o, A' = some ⟨b, o, none⟩ /\ b < w.heap.size /\ In w b o l := by
        rcases HA'.out with h | h
        . subst h; simp at hlt
        . exact h
      obtain ⟨c0, c1, c2, c3, c4⟩ := (hin.below hbs hbl).get n hlt
      obtain ⟨d0, d1, d2, d3, d4⟩ := (hin'.below hbs' hbl).get n hlt
      have hb1 : b < wr.heap.size := Nat.lt_of_lt_of_le hbs hbl.size
      have hb2 : b' < wr.heap.size := Nat.lt_of_lt_of_le hbs' hbl.size
      have hi0 : (0 : Int) <= (n : Int) := by omega
      have hi1 : (n : Int) < (l.length : Int) := by omega
      go_wp2
      go_region_held3 (fun w' => w'.cell? ⟨b, o + n * 5, none⟩ = some (.int .i64 l[n].off) /\ w'.cell? ⟨b, o + n * 5 + 1, none⟩ = some (.string l[n].key) /\ w'.cell? ⟨b, o + n * 5 + 2, none⟩ = some (.string l[n].text) /\ w'.cell? ⟨b, o + n * 5 + 3, none⟩ = some (.int .i64 l[n].who) /\ w'.cell? ⟨b, o + n * 5 + 4, none⟩ = some (.int .i64 l[n].time) /\
          w'.cell? ⟨b', o' + n * 5, none⟩ = some (.int .i64 l[n].off) /\ w'.cell? ⟨b', o' + n * 5 + 1, none⟩ = some (.string l[n].key) /\ w'.cell? ⟨b', o' + n * 5 + 2, none⟩ = some (.string l[n].text) /\ w'.cell? ⟨b', o' + n * 5 + 3, none⟩ = some (.int .i64 l[n].who) /\ w'.cell? ⟨b', o' + n * 5 + 4, none⟩ = some (.int .i64 l[n].time) /\ wr.heap.size <= w'.heap.size)
        (first | (go_split_ands; refine ⟨?_, ?_, ?_, ?_, ?_, ?_, ?_, ?_, ?_, ?_, ?_⟩<;>first | assumption | exact (k1 _ _ hb1).trans (by assumption) | exact (k1 _ _ hb2).trans (by assumption) | exact s1 | (simp; done)) | go_keep)
        (first
          | (go_at_call 211; refine (eqItem_same _ _ _ _ _ _).mono ?_; rintro e w1 ⟨rfl, g1⟩; obtain ⟨k1, m1⟩ := bcell g1; have s1 := g1.size))
      all_goals
        go_wp2
        exact ⟨⟨n + 1, by go_num, by omega, via0 g1 hbl.drew⟩, by simp [intOf]; omega⟩
    . go_wp2
      go_ret
      exact ⟨rfl, hbl⟩
theorem eqRow_same (start next : Int) (A A' : Option Addr) (cap cap' : Nat) (l : List It) (hl : l.length <= 9223372036854775807) (w : World)
    (hA : l = [] ∨ ∃ b o, A = some ⟨b, o, none⟩ /\ b < w.heap.size /\ In w b o l) (hA' : l = [] ∨ ∃ b o, A' = some ⟨b, o, none⟩ /\ b < w.heap.size /\ In w b o l) :
    Calls Tryz.prog 162 #[.agg #[.int .i64 start, .int .i64 next, .slice A l.length cap], .agg #[.int .i64 start, .int .i64 next, .slice A' l.length cap']] w fun e w' => e = .returned (.bool true) /\ Below w.heap.size w w' := by
  have up : ∀ {A : Option Addr}, (l = [] ∨ ∃ b o, A = some ⟨b, o, none⟩ /\ b < w.heap.size /\ In w b o l) -> ∀ W : World, Below w.heap.size w W -> l = [] ∨ ∃ b o, A = some ⟨b, o, none⟩ /\ b < W.heap.size /\ In W b o l := fun hA W hW => by
    rcases hA with h | ⟨b, o, h1, h2, h3⟩
    . exact .inl h
    . exact .inr ⟨b, o, h1, Nat.lt_of_lt_of_le h2 hW.size, h3.below h2 hW⟩
  have HA : Hid (∀ W : World, Below w.heap.size w W -> l = [] ∨ ∃ b o, A = some ⟨b, o, none⟩ /\ b < W.heap.size /\ In W b o l) := up hA
  have HA' : Hid (∀ W : World, Below w.heap.size w W -> l = [] ∨ ∃ b o, A' = some ⟨b, o, none⟩ /\ b < W.heap.size /\ In W b o l) := up hA'
  clear hA hA' up
  go_enter Tryz.func162, Tryz.ntmps162
  go_wp2_with (go_at_call 202; refine (eqItemS_same A A' cap cap' l hl _ (HA.out _ ?_) (HA'.out _ ?_)).mono ?_; (repeat (first | exact Below.refl _ _ | refine via0 (by assumption) ?_ | refine Below.drew ?_ | refine alloc0 ?_ _)); (repeat (first | exact Below.refl _ _ | refine via0 (by assumption) ?_ | refine Below.drew ?_ | refine alloc0 ?_ _)); rintro e w1 ⟨rfl, g1⟩)
  go_ret
  refine ⟨rfl, ?_⟩
  repeat (first | exact Below.refl _ _ | refine via0 (by assumption) ?_ | refine Below.drew ?_ | refine alloc0 ?_ _)
end Go.Proofs.YtanihpmgoeadkaaGreat.Items
