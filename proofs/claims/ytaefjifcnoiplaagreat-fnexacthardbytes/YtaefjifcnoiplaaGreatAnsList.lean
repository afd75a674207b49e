/-
  Lists of answers: how they lie, what the laws' to, sz, eq, mark and held functions of them do; the argument opened. No condition but that there are at most 1048576, and the length that every text has.
-/
import Derived.Test.YtaefjifcnoiplaaGreatAns
import Derived.Test.YtaefjifcnoiplaaGreatMarkText
import Derived.Lib.ConvBytes
import Derived.Laws.IdiomStrings
import Derived.Test.YtaefjifcnoiplaaGreatRows
import Derived.Test.YtaefjifcnoiplaaGreatBase
import Derived.Lib.SmallJoins
import Derived.Deep.RegionWith
import Derived.Test.YtaefjifcnoiplaaGreatGen
import Derived.Laws.MakeOwn
import Derived.Deep.RegionHeld3
import Derived.Deep.Slices
namespace Go.Proofs.YtaefjifcnoiplaaGreat.Gen
open Go.ChangeShapes Go.WideShapes Go.ChangeAt Go.RowKit Go.Joins Go.Deep Base
set_option linter.unusedVariables false
structure An where
  code : Int
  n : Int
  key : ByteArray
  text : ByteArray
instance : Inhabited An := ⟨⟨0, 0, ⟨#[]⟩, ⟨#[]⟩⟩⟩
instance : Cel An where
  k := 4
  cs x := [.int .i64 x.code, .int .i64 x.n, .string x.key, .string x.text]
  len _ := rfl
  one x u hu := by simp at hu; rcases hu with rfl | rfl | rfl | rfl<;>rfl
def An.right (x : An) : Prop := I64 x.code /\ I64 x.n /\ x.key.size <= 9223372036854775807 /\ x.text.size <= 9223372036854775807
theorem In.getAn {w : World} {b o : Nat} {l : List An} (h : In w b o l) (i : Nat) (hi : i < l.length) :
    w.cell? ⟨b, o + i * 4, none⟩ = some (.int .i64 l[i].code) /\ w.cell? ⟨b, o + i * 4 + 1, none⟩ = some (.int .i64 l[i].n) /\ w.cell? ⟨b, o + i * 4 + 2, none⟩ = some (.string l[i].key) /\ w.cell? ⟨b, o + i * 4 + 3, none⟩ = some (.string l[i].text) :=
  ⟨h.cell i hi (f := 0) rfl, h.cell i hi (f := 1) rfl, h.cell i hi (f := 2) rfl, h.cell i hi (f := 3) rfl⟩
theorem infoAn : (Tryz.prog.info? 146).map (fun i => (i.zero, i.size, i.bytes)) = some (some (.agg #[.int .i64 0, .int .i64 0, .string ⟨#[]⟩, .string ⟨#[]⟩]), 4, 48) := by kernel_rfl
def szAn (x : An) : Nat := x.key.size + x.text.size
set_option maxRecDepth 100000 in
set_option maxHeartbeats 1000000 in
theorem szAnswerS_any (A : Option Addr) (cap : Nat) (l : List An) (hl : l.length <= 9223372036854775807) (hr : ∀ x ∈ l, x.key.size <= 9223372036854775807 /\ x.text.size <= 9223372036854775807) (left : Int) (h0 : 0 <= left) (h1 : left <= 1048576) (w : World) (hA : At w A l) :
    Calls Tryz.prog 32 #[.slice A l.length cap, .int .i64 left] w fun e w' => (∃ r : Int, e = .returned (.int .i64 r) /\ (r < 0 ∨ (0 <= r /\ r = left - (l.length : Int) - (count szAn l : Int)))) /\ Below w.heap.size w w' := by
  have HA := hidP hA
  have Hr := hidP hr
  clear hA hr
  by_cases h : left < (l.length : Int)
  . have g : left - (l.length : Int) < 0 := by omega
    go_enter Tryz.func32, Tryz.ntmps32
    go_wp2
    go_ret
    exact ⟨⟨-1, rfl, .inl (by omega)⟩, Below.refl _ _⟩
  . have g : ¬ left - (l.length : Int) < 0 := by omega
    go_enter Tryz.func32, Tryz.ntmps32
    go_wp2
    go_loopw [1, 5] (fun q i w' => ∃ (n : Nat) (z : Int), i = .int .i64 (n : Int) /\ q = .int .i64 z /\ n <= l.length /\ 0 <= z /\ z <= 1048576 /\ Hid (z = left - (l.length : Int) - (count szAn (l.take n) : Int)) /\ Below w.heap.size w w') (fun _ i _ => l.length - (intOf i).toNat)
    case atStart => exact ⟨0, _, rfl, rfl, by omega, by omega, by omega, by simp [Hid, count], Below.refl _ _⟩
    case round =>
      obtain ⟨n, z, rfl, rfl, hn, hz0, hz1, hz, hbl⟩ := hrel
      by_cases hlt : n < l.length
      . obtain ⟨b, o, rfl, hbs, hIn⟩ : ∃ b o, A = some ⟨b, o, none⟩ /\ b < w.heap.size /\ In w b o l := by
          rcases HA.out with h | h
          . subst h; simp at hlt
          . exact h
        obtain ⟨c0, c1, c2, c3⟩ := (hIn.below hbs hbl).getAn n hlt
        have hms := Hr.out _ (List.getElem_mem hlt)
        have hsn := hidP (count_snoc szAn l n hlt)
        go_wp2_with fail
        refine (szAnswer_any _ _ _ _ hms.1 hms.2 z hz0 hz1 _).mono ?_
        rintro e w1 ⟨⟨r, rfl, hr⟩, g1⟩
        rcases hr with rfl | ⟨hr0, hr1⟩
        . go_wp2
          go_ret
          exact ⟨⟨-1, rfl, .inl (by omega)⟩, via0 g1 hbl⟩
        . have hp : ¬ r < 0 := by omega
          have HR1 := hidP hr1
          clear hr1
          go_wp2
          have hz' := hz.out
          have hsn' := hsn.out
          have hr' := HR1.out
          exact ⟨⟨n + 1, r, by go_num, rfl, by omega, by omega, by omega, by show _ = _; rw [hsn', hr', hz']; simp only [szAn]; omega, via0 g1 hbl⟩, by simp [intOf]; omega⟩
      . have e : l.take n = l := List.take_of_length_le (by omega)
        go_wp2
        go_ret
        have hz' := hz.out
        rw [e] at hz'
        exact ⟨⟨z, rfl, .inr ⟨hz0, hz'⟩⟩, hbl⟩
set_option maxRecDepth 100000 in
set_option maxHeartbeats 1000000 in
theorem toAnswerS_any (A : Option Addr) (cap : Nat) (l : List An) (hl : l.length <= 1048576) (w : World) (hA : At w A l) :
    Calls Tryz.prog 45 #[.slice A l.length cap] w fun e w' => e = .returned (.slice (some ⟨w.heap.size, 0, none⟩) l.length l.length) /\ Below w.heap.size w w' /\ w.heap.size < w'.heap.size /\ In w' w.heap.size 0 l /\ w'.there w.heap.size 0 (l.length * 4) := by
  have HA := hidP hA
  clear hA
  have hmk := make_els (P := Tryz.prog) Tryz.underlying47 infoAn (by omega) l.length hl
  go_enter Tryz.func45, Tryz.ntmps45
  go_wp2
  go_loopw [4] (fun i w' => ∃ (n : Nat), i = .int .i64 (n : Int) /\ n <= l.length /\ Below w.heap.size w w' /\ w.heap.size < w'.heap.size /\ Hid (In w' w.heap.size 0 (l.take n)) /\ Hid (w'.there w.heap.size 0 (l.length * 4))) (fun i _ => l.length - (intOf i).toNat)
  case atStart => exact ⟨0, rfl, by omega, by repeat (first | exact Below.refl _ _ | assumption | refine via0 (by assumption) ?_ | refine Below.drew ?_ | refine alloc0 ?_ _), by simp, In.nil _ _ _, made_there w _ _ _ _⟩
  case round =>
    obtain ⟨n, rfl, hn, hbl, hsz, hin, hth⟩ := hrel
    by_cases hlt : n < l.length
    . obtain ⟨b, o, rfl, hbs, hIn⟩ : ∃ b o, A = some ⟨b, o, none⟩ /\ b < w.heap.size /\ In w b o l := by
        rcases HA.out with h | h
        . subst h; simp at hlt
        . exact h
      obtain ⟨c0, c1, c2, c3⟩ := (hIn.below hbs hbl).getAn n hlt
      obtain ⟨⟨v0, d0⟩, f0⟩ := there_at (f := 0) hth.out hlt (by omega)
      obtain ⟨⟨v1, d1⟩, f1⟩ := there_at (f := 1) hth.out hlt (by omega)
      obtain ⟨⟨v2, d2⟩, f2⟩ := there_at (f := 2) hth.out hlt (by omega)
      obtain ⟨⟨v3, d3⟩, f3⟩ := there_at (f := 3) hth.out hlt (by omega)
      simp only [Nat.zero_add, Nat.add_zero] at d0 f0 d1 f1 d2 f2 d3 f3
      go_wp2_with (go_at_call 92; refine (toAnswer_any _ _ _ _ _).mono ?_; rintro e w1 ⟨rfl, g1⟩; obtain ⟨k1, m1⟩ := bcell g1; have s1 := g1.size)
      have hst := store_el (hin.out.below hsz g1) (there_below hth.out hsz g1) hlt
      refine ⟨⟨n + 1, by go_num, by omega, ?_, by simp; omega, hst.1, hst.2⟩, by simp [intOf]; omega⟩
      exact ((((via0 g1 hbl).setCell (Nat.le_refl _) _).setCell (Nat.le_refl _) _).setCell (Nat.le_refl _) _).setCell (Nat.le_refl _) _
    . have e : l.take n = l := List.take_of_length_le (by omega)
      go_wp2
      go_ret
      exact ⟨rfl, hbl, hsz, by have := hin.out; rwa [e] at this, hth.out⟩
theorem eqAnswer_same (code n : Int) (k t : ByteArray) (w : World) :
    Calls Tryz.prog 128 #[.agg #[.int .i64 code, .int .i64 n, .string k, .string t], .agg #[.int .i64 code, .int .i64 n, .string k, .string t]] w fun e w' => e = .returned (.bool true) /\ Below w.heap.size w w' := by
  go_enter Tryz.func128, Tryz.ntmps128
  go_wp2
  go_ret
  exact ⟨rfl, by repeat (first | exact Below.refl _ _ | assumption | refine via0 (by assumption) ?_ | refine Below.drew ?_ | refine alloc0 ?_ _)⟩
set_option maxRecDepth 100000 in
set_option maxHeartbeats 1000000 in
theorem eqAnswerS_same (A A' : Option Addr) (cap cap' : Nat) (l : List An) (hl : l.length <= 9223372036854775807) (w : World) (hA : At w A l) (hA' : At w A' l) :
    Calls Tryz.prog 64 #[.slice A l.length cap, .slice A' l.length cap'] w fun e w' => e = .returned (.bool true) /\ Below w.heap.size w w' := by
  have HA := hidP hA
  have HA' := hidP hA'
  clear hA hA'
  go_enter Tryz.func64, Tryz.ntmps64
  go_wp2
  go_loopw [5] (fun i w' => ∃ (n : Nat), i = .int .i64 (n : Int) /\ n <= l.length /\ Below w.heap.size w w') (fun i _ => l.length - (intOf i).toNat)
  case atStart => exact ⟨0, rfl, by omega, Below.refl _ _⟩
  case round =>
    obtain ⟨n, rfl, hn, hbl⟩ := hrel
    by_cases hlt : n < l.length
    . obtain ⟨b, o, rfl, hbs, hin⟩ : ∃ b o, A = some ⟨b, o, none⟩ /\ b < w.heap.size /\ In w b o l := by
        rcases HA.out with h | h
        . subst h; simp at hlt
        . exact h
      obtain ⟨b', o', rfl, hbs', hin'⟩ : ∃ b o, A' = some ⟨b, o, none⟩ /\ b < w.heap.size /\ In w b o l := by
        rcases HA'.out with h | h
        . subst h; simp at hlt
        . exact h
      obtain ⟨c0, c1, c2, c3⟩ := (hin.below hbs hbl).getAn n hlt
      obtain ⟨d0, d1, d2, d3⟩ := (hin'.below hbs' hbl).getAn n hlt
      have hb1 : b < wr.heap.size := Nat.lt_of_lt_of_le hbs hbl.size
      have hb2 : b' < wr.heap.size := Nat.lt_of_lt_of_le hbs' hbl.size
      have hi0 : (0 : Int) <= (n : Int) := by omega
      have hi1 : (n : Int) < (l.length : Int) := by omega
      go_wp2
      go_region_held3 (fun w' => w'.cell? ⟨b, o + n * 4, none⟩ = some (.int .i64 l[n].code) /\ w'.cell? ⟨b, o + n * 4 + 1, none⟩ = some (.int .i64 l[n].n) /\ w'.cell? ⟨b, o + n * 4 + 2, none⟩ = some (.string l[n].key) /\ w'.cell? ⟨b, o + n * 4 + 3, none⟩ = some (.string l[n].text) /\
          w'.cell? ⟨b', o' + n * 4, none⟩ = some (.int .i64 l[n].code) /\ w'.cell? ⟨b', o' + n * 4 + 1, none⟩ = some (.int .i64 l[n].n) /\ w'.cell? ⟨b', o' + n * 4 + 2, none⟩ = some (.string l[n].key) /\ w'.cell? ⟨b', o' + n * 4 + 3, none⟩ = some (.string l[n].text) /\ wr.heap.size <= w'.heap.size)
        (first | (go_split_ands; refine ⟨?_, ?_, ?_, ?_, ?_, ?_, ?_, ?_, ?_⟩<;>first | assumption | exact (k1 _ _ hb1).trans (by assumption) | exact (k1 _ _ hb2).trans (by assumption) | exact s1 | (simp; done)) | go_keep)
        (first
          | (go_at_call 128; refine (eqAnswer_same _ _ _ _ _).mono ?_; rintro e w1 ⟨rfl, g1⟩; obtain ⟨k1, m1⟩ := bcell g1; have s1 := g1.size))
      all_goals
        go_wp2
        exact ⟨⟨n + 1, by go_num, by omega, via0 g1 hbl.drew⟩, by simp [intOf]; omega⟩
    . go_wp2
      go_ret
      exact ⟨rfl, hbl⟩
def markAn (z : Int) : An := ⟨z, z + 1, Items.markZ (z + 2), Items.markZ (z + 3)⟩
def marksAn (n : Nat) (z : Int) : List An := (List.range n).map fun (i : Nat) => markAn (z + (i : Int) * 4)
theorem marksAn_length (n : Nat) (z : Int) : (marksAn n z).length = n := by simp [marksAn]
theorem marksAn_succ (n : Nat) (z : Int) : marksAn (n + 1) z = marksAn n z ++ [markAn (z + (n : Int) * 4)] := by simp [marksAn, List.range_succ]
theorem marksAn_flat (n : Nat) (k z : Int) (hz : z = k + (n : Int) * 4) :
    flat (marksAn n k) ++ [.int .i64 z] ++ [.int .i64 (z + 1)] ++ [.string (Items.markZ (z + 1 + 1))] ++ [.string (Items.markZ (z + 1 + 1 + 1))] = flat (marksAn (n + 1) k) := by
  subst hz
  have e2 : ∀ z : Int, z + 1 + 1 = z + 2 := fun z => by omega
  have e3 : ∀ z : Int, z + 1 + 1 + 1 = z + 3 := fun z => by omega
  rw [marksAn_succ, flat_append, flat_one, e3, e2]
  simp [Cel.cs, markAn]
set_option maxRecDepth 100000 in
set_option maxHeartbeats 1000000 in
theorem markAnswerS_any (b o cap m : Nat) (k : Int) (hk : 1 <= k) (hk' : k <= 100000000) (hm : m <= 1048576) (w : World) (hb : b < w.heap.size) (hth : w.there b o (m * 4)) :
    Calls Tryz.prog 70 #[.slice (some ⟨b, o, none⟩) m cap, .int .i64 k] w fun e w' => e = .returned (.int .i64 (k + (m : Int) * 4)) /\ Only b w w' /\ In w' b o (marksAn m k) /\ w'.there b o (m * 4) := by
  have HT := hidP hth
  clear hth
  go_enter Tryz.func70, Tryz.ntmps70
  go_wp2
  go_loopw [1, 5] (fun kk i w' => ∃ (n : Nat) (z : Int), i = .int .i64 (n : Int) /\ kk = .int .i64 z /\ n <= m /\ 1 <= z /\ z <= 900000000 /\ Only b w w' /\ Hid (z = k + (n : Int) * 4) /\ Hid (In w' b o (marksAn n k)) /\ Hid (w'.there b o (m * 4))) (fun _ i _ => m - (intOf i).toNat)
  case atStart => exact ⟨0, k, rfl, rfl, by omega, hk, by omega, Only.refl _ _, by simp [Hid], In.nil _ _ _, HT.out⟩
  case round =>
    obtain ⟨n, z, rfl, rfl, hn, hz1, hz2, ho, hz, hin, hth⟩ := hrel
    by_cases hlt : n < m
    . obtain ⟨⟨v0, d0⟩, f0⟩ := there_at (f := 0) hth.out hlt (by omega)
      rw [Nat.add_zero] at d0 f0
      obtain ⟨⟨v1, d1⟩, f1⟩ := there_at (f := 1) hth.out hlt (by omega)
      obtain ⟨⟨v2, d2⟩, f2⟩ := there_at (f := 2) hth.out hlt (by omega)
      obtain ⟨⟨v3, d3⟩, f3⟩ := there_at (f := 3) hth.out hlt (by omega)
      have q1 : b < wr.heap.size := Nat.lt_of_lt_of_le hb ho.size
      go_wp2_with (go_at_call 129; refine (Items.markText_at _ ?_ ?_ _).mono ?_; omega; omega; rintro e w1 ⟨rfl, g1⟩; obtain ⟨k1, m1⟩ := bcell g1; have s1 := g1.size; have q1 : b < w1.heap.size := (by first | exact lt_set q1 s1 | exact lt_set (lt_set q1 (Nat.le_refl _)) s1))
      have hlen : (flat (marksAn n k)).length = n * 4 := by rw [flat_length, marksAn_length]; rfl
      have P0 := push (v := .int .i64 z) (q := o + n * 4) ⟨hin.out, hth.out, Nat.lt_of_lt_of_le hb ho.size⟩ (by rw [hlen]; omega) (by rw [hlen])
      have P1 := push (v := .int .i64 (z + 1)) (q := o + n * 4 + 1) P0 (by simp [hlen]; omega) (by simp [hlen]; omega)
      have P2 := push (v := .string (Items.markZ (z + 1 + 1))) (q := o + n * 4 + 2) (pushcall P1 (by assumption)) (by simp [hlen]; omega) (by simp [hlen]; omega)
      have P3 := push (v := .string (Items.markZ (z + 1 + 1 + 1))) (q := o + n * 4 + 3) (pushcall P2 g1) (by simp [hlen]; omega) (by simp [hlen]; omega)
      rw [marksAn_flat n k z hz.out] at P3
      have hz' := hz.out
      refine ⟨⟨n + 1, z + 1 + 1 + 1 + 1, by go_num, rfl, by omega, by omega, by omega, ?_, by show z + 1 + 1 + 1 + 1 = _; omega, P3.1, P3.2.1⟩, by simp [intOf]; omega⟩
      exact (((((ho.set _ _).set _ _).below (by assumption)).set _ _).below g1).set _ _
    . obtain rfl : n = m := by omega
      go_wp2
      go_ret
      have e := hz.out
      subst e
      exact ⟨rfl, ho, hin.out, hth.out⟩
set_option maxRecDepth 100000 in
theorem openAn {H : Type} {enc : TypeId × Value -> H} {w : World} {base n : Nat} {spare : Nat -> Bool} {held : Bool} {a : Addr} {cs : List Value} {y : DataW H × List MemPlace}
    (h1 : w.cells? base a 4 = some cs) (h2 : DataW.trod enc Tryz.prog w base spare held n 135 cs = some y) :
    ∃ x : An, x.right /\ a.spot = none /\ a.block < w.heap.size /\ ∀ j v, (Cel.cs x)[j]? = some v -> w.cell? ⟨a.block, a.off + j, none⟩ = some v := by
  obtain ⟨_, hlen, hc⟩ := World.cells?_some h1
  match cs, hlen with
  | [c0, c1, c2, c3], _ =>
    obtain ⟨m, hf⟩ := fields_at Tryz.underlying135 (by kernel_rfl) h2
    obtain ⟨y0, g0⟩ := hf 0 _ rfl _ rfl
    obtain ⟨y1, g1⟩ := hf 1 _ rfl _ rfl
    obtain ⟨y2, g2⟩ := hf 2 _ rfl _ rfl
    obtain ⟨y3, g3⟩ := hf 3 _ rfl _ rfl
    obtain ⟨code, e0, _, w0⟩ := DataW.trod_int Tryz.underlying3 g0
    obtain ⟨nn, e1, _, w1⟩ := DataW.trod_int Tryz.underlying3 g1
    obtain ⟨key, e2, _, w2⟩ := DataW.trod_string Tryz.underlying9 g2
    obtain ⟨text, e3, _, w3⟩ := DataW.trod_string Tryz.underlying9 g3
    simp at e0 e1 e2 e3
    subst e0 e1 e2 e3
    have q0 := hc 0 (by omega)
    have hsp : a.spot = none := by
      cases hs : a.spot with
      | none => rfl
      | some s => exfalso; simp [Addr.add, World.cell?, hs] at q0; split at q0<;>simp at q0
    have hlt : a.block < w.heap.size := by
      rw [show a.add 0 = a from rfl] at q0
      unfold World.cell? at q0
      cases hh : w.heap[a.block]? with
      | none => simp [hh] at q0
      | some ob => exact (Array.getElem?_eq_some_iff.1 hh).1
    refine ⟨⟨code, nn, key, text⟩, ⟨i64_of w0, i64_of w1, by simpa [maxLen] using w2, by simpa [maxLen] using w3⟩, hsp, hlt, ?_⟩
    intro j v hv
    have hj : j < 4 := (List.getElem?_eq_some_iff.1 hv).1
    have q := hc j hj
    have e : a.add j = ⟨a.block, a.off + j, none⟩ := by
      obtain ⟨b, o, s⟩ := a
      simp only at hsp
      subst hsp
      exact Addr.add_mid b o j
    rw [e] at q
    rw [q]
    exact hv
set_option maxRecDepth 100000 in
theorem openAnswerS {H : Type} {enc : TypeId × Value -> H} {W : World} {base n : Nat} {spare : Nat -> Bool} {held : Bool} {c : Value} {y : DataW H × List MemPlace}
    (g : DataW.trod enc Tryz.prog W base spare held n 31 [c] = some y) :
    ∃ (A : Option Addr) (cap : Nat) (l : List An), c = .slice A l.length cap /\ l.length <= 9223372036854775807 /\ (∀ x ∈ l, x.right) /\ At W A l := by
  rcases open_slice Tryz.underlying31 g with ⟨e2, _⟩ | ⟨a, len, cap, m, n', D, Pl, e2, _, hl, hm, hmm, _, hx⟩
  . simp at e2
    subst e2
    exact ⟨none, 0, [], rfl, by simp, by simp, .inl rfl⟩
  . simp at e2
    subst e2
    have hle : len <= m := by rw [hmm]; split<;>omega
    rw [cellsAns] at hx
    obtain ⟨X, hX⟩ := choose_lt (α := An) (p := fun i x => x.right /\ (a.add (i * 4)).spot = none /\ (a.add (i * 4)).block < W.heap.size /\ ∀ j v, (Cel.cs x)[j]? = some v -> W.cell? ⟨(a.add (i * 4)).block, (a.add (i * 4)).off + j, none⟩ = some v)
      (n := len) (fun i hi => by obtain ⟨cs', h1, h2⟩ := hx i (by omega); exact openAn h1 h2)
    obtain ⟨l, rfl, hR, hat⟩ := at_of (α := An) (by decide) (R := An.right) hX
    exact ⟨some a, cap, l, rfl, by simp [maxLen] at hm ⊢; omega, hR, hat⟩
end Go.Proofs.YtaefjifcnoiplaaGreat.Gen

/-
  Lists of bytes: how they lie, and what the laws' to, eq, mark and held functions of them do. No condition but that there are at most 1048576.
-/
namespace Go.Proofs.YtaefjifcnoiplaaGreat.Gen
open Go.ChangeShapes Go.WideShapes Go.ChangeAt Go.RowKit Go.Joins Go.Deep Base
set_option linter.unusedVariables false
instance : Cel UInt8 where
  k := 1
  cs x := [.int .u8 (x.toNat : Int)]
  len _ := rfl
  one x u hu := by simp at hu; subst hu; rfl
theorem In.getB {w : World} {b o : Nat} {l : List UInt8} (h : In w b o l) (i : Nat) (hi : i < l.length) : w.cell? ⟨b, o + i, none⟩ = some (.int .u8 (l[i].toNat : Int)) := by
  have := h.cell i hi (f := 0) rfl
  have e : o + i * Cel.k UInt8 + 0 = o + i := by show o + i * 1 + 0 = o + i; omega
  rwa [e] at this
theorem there_one {w : World} {b o m n : Nat} (h : w.there b o (m * 1)) (hn : n < m) : (∃ v, w.cell? ⟨b, o + n, none⟩ = some v) /\ w.frozen? ⟨b, o + n, none⟩ = false := by
  have := there_at (f := 0) h hn (by omega)
  rwa [Nat.mul_one, Nat.add_zero] at this
theorem infoB : (Tryz.prog.info? 5).map (fun i => (i.zero, i.size, i.bytes)) = some (some (.int .u8 0), 1, 1) := by kernel_rfl
theorem append_els8 (B : Nat) (v : Value) (l m : List UInt8) (A : Option Addr) (cap : Nat) (w : World) (hB : B <= w.heap.size) (hv : w.ownsRow B 5 1 v l.length (flat l)) (hA : At w A m) (hlen : l.length + m.length <= 1000000000) :
    ∃ v' w', (Builtin.append_ #[37, 37] 37 #[v, .slice A m.length cap]).run Tryz.prog w = .ok v' w' /\ w'.ownsRow B 5 1 v' (l.length + m.length) (flat (l ++ m)) /\ w.grownBy w' v.ownBlock /\ (v'.ownBlock = v.ownBlock ∨ v'.ownBlock = some w.heap.size) := by
  obtain ⟨i0, hi, hz0, hz1, hz2⟩ := info_parts infoB
  by_cases h0 : m = []
  . subst h0
    have e0 : ∃ a n c, v = .slice a n c /\ n <= c := by
      rcases hv.2 with ⟨rfl, _⟩ | ⟨g, c, cur, rfl, _, _, h, _⟩
      . exact ⟨_, _, _, rfl, Nat.le_refl _⟩
      . exact ⟨_, _, _, rfl, h⟩
    obtain ⟨a, n, c, rfl, hle⟩ := e0
    exact ⟨_, _, run_append_nothing w 37 37 37 5 i0 Tryz.underlying37 hi a n c hle _ (hz1 ▸ src_none _ 37 5 Tryz.underlying37 A cap w), by simpa using hv, World.grownBy.refl _ _, .inl rfl⟩
  . obtain ⟨b, o, rfl, hb, hin⟩ := hA.resolve_left h0
    have hm : 0 < m.length := List.length_pos_iff.2 h0
    obtain ⟨g, c, w', hr, h1, h2, h3, h4⟩ := run_append_lies (P := Tryz.prog) w 37 37 B 5 i0 (.int .u8 0) 1 1 Tryz.underlying37 hi hz0 hz1 hz2 rfl (by decide) v l.length (flat l) hv ⟨b, o, none⟩ m.length cap (flat m) (flat_length m)
      (fun j u hu => by rw [Addr.add_mid]; exact hin j u hu) (flat_ones m) hm (by simp [maxLen]; omega) (by omega) hB _ rfl
    exact ⟨_, _, hr, by rw [flat_append]; exact h1, h2, h3.imp (fun e => by rw [e]; rfl) (fun e => by rw [← e]; rfl)⟩
theorem eqB_same (A A' : Option Addr) (cap cap' : Nat) (l : List UInt8) (hl : l.length <= 9223372036854775807) (w : World) (hA : At w A l) (hA' : At w A' l) :
    Calls Tryz.prog 9 #[.slice A l.length cap, .slice A' l.length cap'] w fun e w' => e = .returned (.bool true) /\ Below w.heap.size w w' := by
  have HA : Hid (At w A l) := hA
  have HA' : Hid (At w A' l) := hA'
  clear hA hA'
  go_enter Tryz.func9, Tryz.ntmps9
  go_wp2
  go_loopw [5] (fun i w' => ∃ (n : Nat), i = .int .i64 (n : Int) /\ n <= l.length /\ Below w.heap.size w w') (fun i _ => l.length - (intOf i).toNat)
  case atStart => exact ⟨0, rfl, by omega, Below.refl _ _⟩
  case round =>
    obtain ⟨n, rfl, hn, hbl⟩ := hrel
    by_cases hlt : n < l.length
    . obtain ⟨b, o, rfl, hbs, hin⟩ : ∃ b o, A = some ⟨b, o, none⟩ /\ b < w.heap.size /\ In w b o l := by
        rcases HA.out with h | h
        . subst h; simp at hlt
        . exact h
      obtain ⟨b', o', rfl, hbs', hin'⟩ : ∃ b o, A' = some ⟨b, o, none⟩ /\ b < w.heap.size /\ In w b o l := by
        rcases HA'.out with h | h
        . subst h; simp at hlt
        . exact h
      have c0 := (hin.below hbs hbl).getB n hlt
      have d0 := (hin'.below hbs' hbl).getB n hlt
      have hi0 : (0 : Int) <= (n : Int) := by omega
      have hi1 : (n : Int) < (l.length : Int) := by omega
      go_wp2
      go_region
      all_goals
        go_wp2
        exact ⟨⟨n + 1, by go_num, by omega, by repeat (first | exact hbl | refine Below.drew ?_)⟩, by simp [intOf]; omega⟩
    . go_wp2
      go_ret
      exact ⟨rfl, hbl⟩
def u8 (z : Int) : UInt8 := UInt8.ofNat (z % 256).toNat
theorem u8_toNat (z : Int) : ((u8 z).toNat : Int) = z % 256 := by
  unfold u8
  rw [UInt8.toNat_ofNat']
  omega
def marksB (n : Nat) (z : Int) : List UInt8 := (List.range n).map fun (i : Nat) => u8 (z + (i : Int))
theorem marksB_length (n : Nat) (z : Int) : (marksB n z).length = n := by simp [marksB]
theorem marksB_succ (n : Nat) (z : Int) : marksB (n + 1) z = marksB n z ++ [u8 (z + (n : Int))] := by simp [marksB, List.range_succ]
theorem marksB_get (n : Nat) (z : Int) (i : Nat) (h : i < (marksB n z).length) : (marksB n z)[i] = u8 (z + (i : Int)) := by simp [marksB]
set_option maxHeartbeats 1000000 in
theorem markB_any (b o cap m : Nat) (k : Int) (hk : 1 <= k) (hk' : k <= 100000000) (hm : m <= 500000000) (w : World) (hb : b < w.heap.size) (hth : w.there b o (m * 1)) :
    Calls Tryz.prog 12 #[.slice (some ⟨b, o, none⟩) m cap, .int .i64 k] w fun e w' => e = .returned (.int .i64 (k + (m : Int))) /\ Only b w w' /\ In w' b o (marksB m k) /\ w'.there b o (m * 1) := by
  have HT : Hid (w.there b o (m * 1)) := hth
  clear hth
  go_enter Tryz.func12, Tryz.ntmps12
  go_wp2
  go_loopw [1, 5] (fun kk i w' => ∃ (n : Nat) (z : Int), i = .int .i64 (n : Int) /\ kk = .int .i64 z /\ n <= m /\ 1 <= z /\ z <= 900000000 /\ Only b w w' /\ Hid (z = k + (n : Int)) /\ Hid (In w' b o (marksB n k)) /\ Hid (w'.there b o (m * 1))) (fun _ i _ => m - (intOf i).toNat)
  case atStart => exact ⟨0, k, rfl, rfl, by omega, hk, by omega, Only.refl _ _, by simp [Hid], fun j v hv => by simp [marksB, flat] at hv, HT.out⟩
  case round =>
    obtain ⟨n, z, rfl, rfl, hn, hz1, hz2, ho, hz, hin, hth⟩ := hrel
    by_cases hlt : n < m
    . obtain ⟨⟨v0, d0⟩, f0⟩ := there_one hth.out hlt
      have q1 : b < wr.heap.size := Nat.lt_of_lt_of_le hb ho.size
      go_wp2
      have hlen : (flat (marksB n k)).length = n := by rw [flat_length, marksB_length]; show n * 1 = n; omega
      have P0 := push (v := .int .u8 (z % 256)) (q := o + n) ⟨hin.out, hth.out, q1⟩ (by simp [hlen]; omega) (by simp [hlen])
      have e : flat (marksB n k) ++ [Value.int .u8 (z % 256)] = flat (marksB (n + 1) k) := by rw [marksB_succ, flat_append, flat_one, hz.out, ← u8_toNat]; rfl
      rw [e] at P0
      have hz' := hz.out
      refine ⟨⟨n + 1, z + 1, by go_num, rfl, by omega, by omega, by omega, ?_, by show z + 1 = _; omega, P0.1, P0.2.1⟩, by simp [intOf]; omega⟩
      exact ho.set _ _
    . obtain rfl : n = m := by omega
      go_wp2
      go_ret
      have e := hz.out
      subst e
      exact ⟨rfl, ho, hin.out, hth.out⟩
theorem markB_none (A : Option Addr) (cap : Nat) (k : Int) (w : World) :
    Calls Tryz.prog 12 #[.slice A 0 cap, .int .i64 k] w fun e w' => e = .returned (.int .i64 k) /\ w' = w := by
  go_enter Tryz.func12, Tryz.ntmps12
  go_wp2
  go_loopw [1, 5] (fun kk i w' => kk = .int .i64 k /\ i = .int .i64 0 /\ w' = w) (fun _ _ _ => 0)
  case atStart => exact ⟨rfl, rfl, rfl⟩
  case round =>
    obtain ⟨rfl, rfl, rfl⟩ := hrel
    go_wp2
    go_ret
    exact ⟨rfl, rfl⟩
set_option maxHeartbeats 1000000 in
theorem heldB_any (A : Option Addr) (cap m : Nat) (k : Int) (hk : 1 <= k) (hk' : k <= 100000000) (hm : m <= 500000000) (w : World)
    (hA : m = 0 ∨ ∃ b o, A = some ⟨b, o, none⟩ /\ b < w.heap.size /\ In w b o (marksB m k)) :
    Calls Tryz.prog 13 #[.slice A m cap, .int .i64 k] w fun e w' => e = .returned (.int .i64 (k + (m : Int))) /\ Below w.heap.size w w' := by
  have HA : Hid (m = 0 ∨ ∃ b o, A = some ⟨b, o, none⟩ /\ b < w.heap.size /\ In w b o (marksB m k)) := hA
  clear hA
  go_enter Tryz.func13, Tryz.ntmps13
  go_wp2
  go_loopw [1, 5] (fun kk i w' => ∃ (n : Nat) (z : Int), i = .int .i64 (n : Int) /\ kk = .int .i64 z /\ n <= m /\ 1 <= z /\ z <= 900000000 /\ Hid (z = k + (n : Int)) /\ Below w.heap.size w w') (fun _ i _ => m - (intOf i).toNat)
  case atStart => exact ⟨0, k, rfl, rfl, by omega, hk, by omega, by simp [Hid], Below.refl _ _⟩
  case round =>
    obtain ⟨n, z, rfl, rfl, hn, hz1, hz2, hz, hbl⟩ := hrel
    by_cases hlt : n < m
    . obtain ⟨b, o, rfl, hbs, hin⟩ : ∃ b o, A = some ⟨b, o, none⟩ /\ b < w.heap.size /\ In w b o (marksB m k) := by
        rcases HA.out with h | h
        . omega
        . exact h
      have c0 : wr.cell? ⟨b, o + n, none⟩ = some (.int .u8 (z % 256)) := by
        have h := (hin.below hbs hbl).getB n (by rw [marksB_length]; exact hlt)
        rw [marksB_get, u8_toNat] at h
        rw [hz.out]
        exact h
      have hi0 : (0 : Int) <= (n : Int) := by omega
      have hi1 : (n : Int) < (m : Int) := by omega
      go_wp2
      try go_region
      all_goals
        try go_wp2
        have hz' := hz.out
        exact ⟨⟨n + 1, z + 1, by go_num, rfl, by omega, by omega, by omega, by show z + 1 = _; omega, by repeat (first | exact hbl | refine Below.drew ?_)⟩, by simp [intOf]; omega⟩
    . obtain rfl : n = m := by omega
      go_wp2
      go_ret
      have e := hz.out
      subst e
      exact ⟨rfl, hbl⟩
theorem one_b (w : World) (x : UInt8) (t : TypeId) : At (w.alloc (.cells #[.int .u8 (x.toNat : Int)] t)) (some ⟨w.heap.size, 0, none⟩) [x] := by
  refine .inr ⟨_, _, rfl, by simp, ?_⟩
  intro j v hv
  rw [flat_one] at hv
  have hj : j < 1 := (List.getElem?_eq_some_iff.1 hv).1
  obtain rfl : j = 0 := by omega
  have hv' : some (Value.int .u8 (x.toNat : Int)) = some v := hv
  rw [← hv']
  simp
end Go.Proofs.YtaefjifcnoiplaaGreat.Gen

/-
  Bytes in a block of their own: marked and found marked. Condition: at most 500000000.
-/
namespace Go.Proofs.YtaefjifcnoiplaaGreat.Gen
open Go.ChangeShapes Go.WideShapes Go.ChangeAt Go.RowKit Go.Joins Go.Deep Base
set_option linter.unusedVariables false
theorem sl_ownB {B : Nat} {w : World} {a : Option Addr} {c : Nat} {L : List UInt8} {t : TypeId} (h : w.ownsRow B t 1 (.slice a L.length c) L.length (flat L)) : ∃ F, Sl w a L F /\ ∀ x ∈ F, B <= x :=
  (Sl.of_fresh (fresh_owns (α := UInt8) h)).2
theorem markSl_any (a : Option Addr) (c : Nat) (L : List UInt8) (F : List Nat) (hL : L.length <= 500000000) (w : World) (h : Sl w a L F) :
    Calls Tryz.prog 12 #[.slice a L.length c, .int .i64 1] w fun e w' => e = .returned (.int .i64 (1 + (L.length : Int))) /\ Off F w w' /\ Sl w' a (marksB L.length 1) F := by
  rcases h with ⟨rfl, rfl⟩ | ⟨b, o, rfl, rfl, hb, hi, ht⟩
  . refine (markB_none a c 1 w).mono ?_
    rintro e w' ⟨rfl, rfl⟩
    exact ⟨rfl, Off.refl _ _, .inl ⟨rfl, rfl⟩⟩
  . refine (markB_any b o c L.length 1 (by omega) (by omega) hL w hb ht).mono ?_
    rintro e w' ⟨rfl, h1, h2, h3⟩
    refine ⟨rfl, Off.of_only h1, .inr ⟨b, o, rfl, rfl, Nat.lt_of_lt_of_le hb h1.size, h2, ?_⟩⟩
    rw [marksB_length]
    exact h3
theorem heldSl_any (a : Option Addr) (c n : Nat) (F : List Nat) (hL : n <= 500000000) (w : World) (h : Sl w a (marksB n 1) F) :
    Calls Tryz.prog 13 #[.slice a n c, .int .i64 1] w fun e w' => e = .returned (.int .i64 (1 + (n : Int))) /\ Below w.heap.size w w' := by
  refine heldB_any a c n 1 (by omega) (by omega) hL w ?_
  rcases h with ⟨h, _⟩ | ⟨b, o, rfl, _, hb, hi, _⟩
  . left; have := congrArg List.length h; rwa [marksB_length] at this
  . exact .inr ⟨b, o, rfl, hb, hi⟩
end Go.Proofs.YtaefjifcnoiplaaGreat.Gen

/-
  Bytes as a text, a text as bytes; a list in a new block. No condition.
-/
namespace Go.Proofs.YtaefjifcnoiplaaGreat.Gen
open Go.ChangeShapes Go.WideShapes Go.ChangeAt Go.RowKit Go.Joins Go.Deep Base
set_option linter.unusedVariables false
set_option linter.unusedSimpArgs false
theorem flat_map1 (l : List UInt8) : flat l = l.map fun b => Value.int .u8 (b.toNat : Int) := by
  induction l with
  | nil => rfl
  | cons x l ih => rw [flat_cons, ih]; rfl
theorem bytes_below (w : World) (t : TypeId) (s : ByteArray) : Below w.heap.size w (Go.Lib.bytesWorld w t s) :=
  ⟨rfl, rfl, rfl, by rw [Go.Lib.bytesWorld_size]; omega, fun i hi => Go.Lib.bytesWorld_at_old w t s i hi⟩
theorem bytes_at (w : World) (t : TypeId) (s : ByteArray) : At (Go.Lib.bytesWorld w t s) (some ⟨w.heap.size, 0, none⟩) s.data.toList := by
  refine .inr ⟨_, _, rfl, by rw [Go.Lib.bytesWorld_size]; omega, ?_⟩
  intro j v hv
  rw [flat_map1] at hv
  have hj : j < s.size := by have := (List.getElem?_eq_some_iff.1 hv).1; rwa [List.length_map, Array.length_toList] at this
  rw [Nat.zero_add, Go.Lib.bytesWorld_cell w t s j hj]
  rw [← hv, List.getElem?_map, List.getD_eq_getElem?_getD]
  have : j < s.data.toList.length := by rw [Array.length_toList]; exact hj
  simp [List.getElem?_eq_getElem this]
theorem conv_bytes {A : Option Addr} {cap : Nat} {L : List UInt8} {w : World} (hA : At w A L) : (convert 37 9 (.slice A L.length cap)).run Tryz.prog w = .ok (.string ⟨L.toArray⟩) w := by
  rcases hA with h | ⟨b, o, rfl, hb, hin⟩
  . subst h
    cases A with
    | none => rw [List.length_nil, run_convert_bytes_string w 37 9 5 none 0 cap Tryz.underlying37 Tryz.underlying5 Tryz.underlying9]; simp [Conv.bytesToString, go_sem]; rfl
    | some a =>
      have h := run_convert_bytes_back (P := Tryz.prog) w 37 9 5 a cap [] Tryz.underlying37 Tryz.underlying5 Tryz.underlying9 (fun j hj => by simp at hj)
      simpa using h
  . exact run_convert_bytes_back (P := Tryz.prog) w 37 9 5 ⟨b, o, none⟩ cap L Tryz.underlying37 Tryz.underlying5 Tryz.underlying9 (fun j hj => by rw [Addr.add_mid]; simpa using hin.getB j hj)
theorem newL {α : Type} [Cel α] (W : World) (L : List α) (cs : Array Value) (tt : TypeId) (h : cs.toList = flat L) : At (W.alloc (.cells cs tt)) (some ⟨W.heap.size, 0, none⟩) L := by
  refine .inr ⟨_, _, rfl, by simp, ?_⟩
  intro j v hv
  rw [← h] at hv
  exact (Blk.new W tt cs).cell (i := 0 + j) (by simpa using hv)
end Go.Proofs.YtaefjifcnoiplaaGreat.Gen

/-
  Commands at this seat: what the laws' toCmd and szCmd answer. No condition but the length that every text has.
-/
namespace Go.Proofs.YtaefjifcnoiplaaGreat.Cmd
open Go.ChangeShapes Go.WideShapes Go.ChangeAt Go.RowKit Base
set_option linter.unusedVariables false
theorem to_any (who seq op a b c : Int) (k t : ByteArray) (w : World) :
    Calls Tryz.prog 141 #[.agg #[.int .i64 who, .int .i64 seq, .int .i64 op, .int .i64 a, .int .i64 b, .int .i64 c, .string k, .string t]] w fun e w' => e = .returned (.agg #[.int .i64 who, .int .i64 seq, .int .i64 op, .int .i64 a, .int .i64 b, .int .i64 c, .string k, .string t]) /\ Below w.heap.size w w' := by
  go_enter Tryz.func141, Tryz.ntmps141
  go_wp2
  exact bodyPost_ret (v := .agg #[.int .i64 who, .int .i64 seq, .int .i64 op, .int .i64 a, .int .i64 b, .int .i64 c, .string k, .string t]) (by simp [results, Tryz.results141, go_sem]) rfl
    ⟨rfl, by repeat (first | exact Below.refl _ _ | refine Below.drew ?_ | refine Below.alloc ?_ (by simp<;>omega) _)⟩
end Go.Proofs.YtaefjifcnoiplaaGreat.Cmd

/-
  Parts of CmdOk at this seat: numbers within limits, plain texts, names of Ops. No condition but the length that every text has.
-/
namespace Go.Proofs.YtaefjifcnoiplaaGreat.CmdOk
open Go.ChangeShapes Go.WideShapes Go.ChangeAt Go.RowKit Go.Joins Base
set_option linter.unusedVariables false
def inB (x lo hi : Int) : Bool := decide (lo <= x /\ x <= hi)
theorem in_any (x lo hi : Int) (w : World) :
    Calls Tryz.prog 34 #[.int .i64 x, .int .i64 lo, .int .i64 hi] w fun e w' => e = .returned (.bool (inB x lo hi)) /\ w' = w := by
  by_cases h1 : lo <= x<;>by_cases h2 : x <= hi <;>
  . go_enter Tryz.func34, Tryz.ntmps34
    go_wp2
    go_ret
    exact ⟨by simp [inB, h1, h2], rfl⟩
theorem within_any (x lo hi : Int) (w : World) :
    Calls Tryz.prog 48 #[.int .i64 x, .int .i64 lo, .int .i64 hi] w fun e w' => e = .returned (.bool (inB x lo hi)) /\ w' = w := by
  by_cases h1 : lo <= x<;>by_cases h2 : x <= hi <;>
  . go_enter Tryz.func48, Tryz.ntmps48
    go_wp2
    go_ret
    exact ⟨by simp [inB, h1, h2], rfl⟩
def plainN (x : Nat) : Bool := decide ((97 <= x /\ x <= 122) ∨ (48 <= x /\ x <= 57) ∨ x = 32)
theorem plain_ways (x : Nat) :
    ((97 : Int) <= x /\ (x : Int) <= 122 /\ plainN x = true) ∨ ((97 : Int) <= x /\ ¬ (x : Int) <= 122 /\ (48 : Int) <= x /\ ¬ (x : Int) <= 57 /\ ((x : Int) == 32) = false /\ plainN x = false) ∨
    (¬ (97 : Int) <= x /\ (48 : Int) <= x /\ (x : Int) <= 57 /\ plainN x = true) ∨ (¬ (97 : Int) <= x /\ (48 : Int) <= x /\ ¬ (x : Int) <= 57 /\ ((x : Int) == 32) = false /\ plainN x = false) ∨
    (¬ (97 : Int) <= x /\ ¬ (48 : Int) <= x /\ ((x : Int) == 32) = true /\ plainN x = true) ∨ (¬ (97 : Int) <= x /\ ¬ (48 : Int) <= x /\ ((x : Int) == 32) = false /\ plainN x = false) := by
  simp only [beq_eq_false_iff_ne, beq_iff_eq, ne_eq, plainN, decide_eq_true_eq, decide_eq_false_iff_not]
  omega
theorem plain_any (x : Nat) (w : World) :
    Calls Tryz.prog 172 #[.int .u8 (x : Int)] w fun e w' => e = .returned (.bool (plainN x)) /\ w' = w := by
  rcases plain_ways x with ⟨h1, h2, hp⟩ | ⟨h1, h2, h3, h4, h5, hp⟩ | ⟨h1, h2, h3, hp⟩ | ⟨h1, h2, h3, h4, hp⟩ | ⟨h1, h2, h3, hp⟩ | ⟨h1, h2, h3, hp⟩ <;>
  . rw [hp]
    go_enter Tryz.func172, Tryz.ntmps172
    go_wp2
    go_ret
    exact ⟨rfl, rfl⟩
def allFrom (s : ByteArray) (i : Nat) : Bool := (s.data.toList.drop i).all (fun x => plainN x.toNat)
def textB (s : ByteArray) : Bool := allFrom s 0 && decide (s.size <= 30)
theorem allFrom_end {s : ByteArray} {i : Nat} (h : s.size <= i) : allFrom s i = true := by
  have : s.data.toList.drop i = [] := List.drop_eq_nil_of_le (by simpa using h)
  simp [allFrom, this]
theorem allFrom_step {s : ByteArray} {i : Nat} (h : i < s.size) : allFrom s i = (plainN (s[i]'h).toNat && allFrom s (i + 1)) := by
  have h' : i < s.data.toList.length := by simpa using h
  unfold allFrom
  rw [List.drop_eq_getElem_cons h', List.all_cons]
  rfl
theorem implText_any (s : ByteArray) (hs : s.size <= 9223372036854775807) (w : World) :
    Calls Tryz.prog 145 #[.string s] w fun e w' => e = .returned (.bool (textB s)) /\ Below w.heap.size w w' := by
  by_cases hl : (s.size : Int) > 30
  . have e1 : textB s = false := by simp [textB]; omega
    rw [e1]
    go_enter Tryz.func145, Tryz.ntmps145
    go_wp2
    go_ret
    exact ⟨rfl, Below.refl _ _⟩
  . have e1 : textB s = allFrom s 0 := by simp [textB]; omega
    rw [e1]
    go_enter Tryz.func145, Tryz.ntmps145
    go_wp2
    go_loopw [3] (fun i w' => ∃ n : Nat, i = .int .i64 (n : Int) /\ n <= s.size /\ allFrom s n = allFrom s 0 /\ Below w.heap.size w w') (fun i _ => s.size - (intOf i).toNat)
    case atStart => exact ⟨0, rfl, by omega, rfl, Below.refl _ _⟩
    case round =>
      obtain ⟨n, rfl, hn, hE, hb⟩ := hrel
      by_cases hlt : n < s.size
      . have hst := allFrom_step hlt
        cases hp : plainN s[n].toNat
        . have hE' : allFrom s 0 = false := by rw [← hE, hst, hp]; rfl
          clear hE hst
          go_wp2_with (go_at_call 172; refine (plain_any _ _).mono ?_; rintro e w' ⟨rfl, rfl⟩)
          go_ret
          exact ⟨by first | rfl | (rw [hE']; rfl), hb⟩
        . have hE' : allFrom s (n + 1) = allFrom s 0 := by rw [← hE, hst, hp]; rfl
          clear hE hst
          go_wp2_with (go_at_call 172; refine (plain_any _ _).mono ?_; rintro e w' ⟨rfl, rfl⟩)
          exact ⟨⟨n + 1, by go_num, by omega, hE', hb⟩, by simp [intOf]; omega⟩
      . have hE' : allFrom s 0 = true := by rw [← hE, allFrom_end (by omega)]
        go_wp2
        go_ret
        exact ⟨by first | rfl | (rw [hE']; rfl), hb⟩
theorem specText_any (s : ByteArray) (hs : s.size <= 9223372036854775807) (w : World) :
    Calls Tryz.prog 135 #[.string s] w fun e w' => e = .returned (.bool (textB s)) /\ Below w.heap.size w w' := by
  go_enter Tryz.func135, Tryz.ntmps135
  go_wp2
  go_loopw [3] (fun i w' => ∃ n : Nat, i = .int .i64 (n : Int) /\ n <= s.size /\ allFrom s n = allFrom s 0 /\ Below w.heap.size w w') (fun i _ => s.size - (intOf i).toNat)
  case atStart => exact ⟨0, rfl, by omega, rfl, Below.refl _ _⟩
  case round =>
    obtain ⟨n, rfl, hn, hE, hb⟩ := hrel
    by_cases hlt : n < s.size
    . have hst := allFrom_step hlt
      rcases plain_ways s[n].toNat with ⟨h1, h2, hp⟩ | ⟨h1, h2, h3, h4, h5, hp⟩ | ⟨h1, h2, h3, hp⟩ | ⟨h1, h2, h3, h4, hp⟩ | ⟨h1, h2, h3, hp⟩ | ⟨h1, h2, h3, hp⟩
      . have hE' : allFrom s (n + 1) = allFrom s 0 := by rw [← hE, hst, hp]; rfl
        clear hE hst hp
        go_wp2
        exact ⟨⟨n + 1, by go_num, by omega, hE', hb⟩, by simp [intOf]; omega⟩
      . have hE' : textB s = false := by
          have h0 : allFrom s 0 = false := by rw [← hE, hst, hp]; rfl
          simp [textB, h0]
        clear hE hst hp
        go_wp2
        go_ret
        exact ⟨by first | rfl | (rw [hE']; rfl), hb⟩
      . have hE' : allFrom s (n + 1) = allFrom s 0 := by rw [← hE, hst, hp]; rfl
        clear hE hst hp
        go_wp2
        exact ⟨⟨n + 1, by go_num, by omega, hE', hb⟩, by simp [intOf]; omega⟩
      . have hE' : textB s = false := by
          have h0 : allFrom s 0 = false := by rw [← hE, hst, hp]; rfl
          simp [textB, h0]
        clear hE hst hp
        go_wp2
        go_ret
        exact ⟨by first | rfl | (rw [hE']; rfl), hb⟩
      . have hE' : allFrom s (n + 1) = allFrom s 0 := by rw [← hE, hst, hp]; rfl
        clear hE hst hp
        go_wp2
        exact ⟨⟨n + 1, by go_num, by omega, hE', hb⟩, by simp [intOf]; omega⟩
      . have hE' : textB s = false := by
          have h0 : allFrom s 0 = false := by rw [← hE, hst, hp]; rfl
          simp [textB, h0]
        clear hE hst hp
        go_wp2
        go_ret
        exact ⟨by first | rfl | (rw [hE']; rfl), hb⟩
    . have hE' : allFrom s 0 = true := by rw [← hE, allFrom_end (by omega)]
      have hE2 : textB s = decide (s.size <= 30) := by simp [textB, hE']
      by_cases hl : (s.size : Int) <= 30
      . have : s.size <= 30 := by omega
        go_wp2
        go_ret
        exact ⟨by first | (rw [hE2]; simp [this]; done) | simp, hb⟩
      . have : ¬ s.size <= 30 := by omega
        go_wp2
        go_ret
        exact ⟨by first | (rw [hE2]; simp [this]; done) | simp, hb⟩
theorem names_any (w : World) :
    Calls Tryz.prog 170 #[] w fun e w' => e = .returned (.agg #[.string ⟨#[110, 111, 110, 101]⟩, .string ⟨#[112, 117, 116]⟩, .string ⟨#[103, 101, 116]⟩, .string ⟨#[101, 112, 111, 99, 104]⟩, .string ⟨#[106, 111, 105, 110]⟩, .string ⟨#[108, 101, 97, 118, 101]⟩, .string ⟨#[109, 97, 114, 107]⟩, .string ⟨#[114, 101, 97, 100]⟩, .string ⟨#[116, 105, 99, 107]⟩, .string ⟨#[116, 114, 105, 109]⟩, .string ⟨#[112, 97, 99, 107]⟩]) /\ Below w.heap.size w w' := by
  go_enter Tryz.func170, Tryz.ntmps170
  go_wp2
  exact bodyPost_ret (v := .agg #[.string ⟨#[110, 111, 110, 101]⟩, .string ⟨#[112, 117, 116]⟩, .string ⟨#[103, 101, 116]⟩, .string ⟨#[101, 112, 111, 99, 104]⟩, .string ⟨#[106, 111, 105, 110]⟩, .string ⟨#[108, 101, 97, 118, 101]⟩, .string ⟨#[109, 97, 114, 107]⟩, .string ⟨#[114, 101, 97, 100]⟩, .string ⟨#[116, 105, 99, 107]⟩, .string ⟨#[116, 114, 105, 109]⟩, .string ⟨#[112, 97, 99, 107]⟩]) (by simp [results, Tryz.results170, go_sem]) rfl
    ⟨rfl, by repeat (first | exact Below.refl _ _ | refine Below.drew ?_ | refine Below.alloc ?_ (by simp<;>omega) _)⟩
theorem reach_any (op : Int) (w : World) :
    Calls Tryz.prog 181 #[.agg #[.string ⟨#[110, 111, 110, 101]⟩, .string ⟨#[112, 117, 116]⟩, .string ⟨#[103, 101, 116]⟩, .string ⟨#[101, 112, 111, 99, 104]⟩, .string ⟨#[106, 111, 105, 110]⟩, .string ⟨#[108, 101, 97, 118, 101]⟩, .string ⟨#[109, 97, 114, 107]⟩, .string ⟨#[114, 101, 97, 100]⟩, .string ⟨#[116, 105, 99, 107]⟩, .string ⟨#[116, 114, 105, 109]⟩, .string ⟨#[112, 97, 99, 107]⟩], .int .i64 op] w fun e w' => e = .returned (.bool (inB op 0 10)) /\ w' = w.alloc (.cells #[.string ⟨#[110, 111, 110, 101]⟩, .string ⟨#[112, 117, 116]⟩, .string ⟨#[103, 101, 116]⟩, .string ⟨#[101, 112, 111, 99, 104]⟩, .string ⟨#[106, 111, 105, 110]⟩, .string ⟨#[108, 101, 97, 118, 101]⟩, .string ⟨#[109, 97, 114, 107]⟩, .string ⟨#[114, 101, 97, 100]⟩, .string ⟨#[116, 105, 99, 107]⟩, .string ⟨#[116, 114, 105, 109]⟩, .string ⟨#[112, 97, 99, 107]⟩] 233) := by
  go_enter Tryz.func181, Tryz.ntmps181
  go_wp2_with (go_at_call 48; refine (within_any _ _ _ _).mono ?_; rintro e w' ⟨rfl, rfl⟩)
  go_ret
  exact ⟨rfl, rfl⟩
theorem without_out (op : Int) (h : inB op 0 10 = false) (w : World) :
    Calls Tryz.prog 171 #[.agg #[.string ⟨#[110, 111, 110, 101]⟩, .string ⟨#[112, 117, 116]⟩, .string ⟨#[103, 101, 116]⟩, .string ⟨#[101, 112, 111, 99, 104]⟩, .string ⟨#[106, 111, 105, 110]⟩, .string ⟨#[108, 101, 97, 118, 101]⟩, .string ⟨#[109, 97, 114, 107]⟩, .string ⟨#[114, 101, 97, 100]⟩, .string ⟨#[116, 105, 99, 107]⟩, .string ⟨#[116, 114, 105, 109]⟩, .string ⟨#[112, 97, 99, 107]⟩], .int .i64 op] w fun e w' => e = .returned (.agg #[.string ⟨#[110, 111, 110, 101]⟩, .string ⟨#[112, 117, 116]⟩, .string ⟨#[103, 101, 116]⟩, .string ⟨#[101, 112, 111, 99, 104]⟩, .string ⟨#[106, 111, 105, 110]⟩, .string ⟨#[108, 101, 97, 118, 101]⟩, .string ⟨#[109, 97, 114, 107]⟩, .string ⟨#[114, 101, 97, 100]⟩, .string ⟨#[116, 105, 99, 107]⟩, .string ⟨#[116, 114, 105, 109]⟩, .string ⟨#[112, 97, 99, 107]⟩]) /\ Below w.heap.size w w' := by
  go_enter Tryz.func171, Tryz.ntmps171
  go_wp2_with (go_at_call 181; refine (reach_any _ _).mono ?_; rintro e w1 ⟨rfl, rfl⟩)
  exact bodyPost_ret (v := .agg #[.string ⟨#[110, 111, 110, 101]⟩, .string ⟨#[112, 117, 116]⟩, .string ⟨#[103, 101, 116]⟩, .string ⟨#[101, 112, 111, 99, 104]⟩, .string ⟨#[106, 111, 105, 110]⟩, .string ⟨#[108, 101, 97, 118, 101]⟩, .string ⟨#[109, 97, 114, 107]⟩, .string ⟨#[114, 101, 97, 100]⟩, .string ⟨#[116, 105, 99, 107]⟩, .string ⟨#[116, 114, 105, 109]⟩, .string ⟨#[112, 97, 99, 107]⟩]) (by simp [results, Tryz.results171, go_sem]) rfl
    ⟨rfl, by repeat (first | exact Below.refl _ _ | (refine via (by assumption) (by first | omega | (simp; done) | (simp; omega)) ?_) | refine Below.drew ?_ | refine Below.setCell ?_ (by first | omega | (simp; done) | (simp; omega)) _ | refine Below.alloc ?_ (by first | omega | (simp; done) | (simp; omega)) _)⟩
theorem without_0 (w : World) :
    Calls Tryz.prog 171 #[.agg #[.string ⟨#[110, 111, 110, 101]⟩, .string ⟨#[112, 117, 116]⟩, .string ⟨#[103, 101, 116]⟩, .string ⟨#[101, 112, 111, 99, 104]⟩, .string ⟨#[106, 111, 105, 110]⟩, .string ⟨#[108, 101, 97, 118, 101]⟩, .string ⟨#[109, 97, 114, 107]⟩, .string ⟨#[114, 101, 97, 100]⟩, .string ⟨#[116, 105, 99, 107]⟩, .string ⟨#[116, 114, 105, 109]⟩, .string ⟨#[112, 97, 99, 107]⟩], .int .i64 0] w fun e w' => e = .returned (.agg #[.string ⟨#[110, 111, 110, 101]⟩, .string ⟨#[112, 117, 116]⟩, .string ⟨#[103, 101, 116]⟩, .string ⟨#[101, 112, 111, 99, 104]⟩, .string ⟨#[106, 111, 105, 110]⟩, .string ⟨#[108, 101, 97, 118, 101]⟩, .string ⟨#[109, 97, 114, 107]⟩, .string ⟨#[114, 101, 97, 100]⟩, .string ⟨#[116, 105, 99, 107]⟩, .string ⟨#[116, 114, 105, 109]⟩, .string ⟨#[112, 97, 99, 107]⟩]) /\ Below w.heap.size w w' := by
  have h : inB 0 0 10 = true := by decide
  go_enter Tryz.func171, Tryz.ntmps171
  go_wp2_with (go_at_call 181; refine (reach_any _ _).mono ?_; rintro e w1 ⟨rfl, rfl⟩)
  exact bodyPost_ret (v := .agg #[.string ⟨#[110, 111, 110, 101]⟩, .string ⟨#[112, 117, 116]⟩, .string ⟨#[103, 101, 116]⟩, .string ⟨#[101, 112, 111, 99, 104]⟩, .string ⟨#[106, 111, 105, 110]⟩, .string ⟨#[108, 101, 97, 118, 101]⟩, .string ⟨#[109, 97, 114, 107]⟩, .string ⟨#[114, 101, 97, 100]⟩, .string ⟨#[116, 105, 99, 107]⟩, .string ⟨#[116, 114, 105, 109]⟩, .string ⟨#[112, 97, 99, 107]⟩]) (by simp [results, Tryz.results171, go_sem]) rfl
    ⟨rfl, by repeat (first | exact Below.refl _ _ | (refine via (by assumption) (by first | omega | (simp; done) | (simp; omega)) ?_) | refine Below.drew ?_ | refine Below.setCell ?_ (by first | omega | (simp; done) | (simp; omega)) _ | refine Below.alloc ?_ (by first | omega | (simp; done) | (simp; omega)) _)⟩
theorem without_1 (w : World) :
    Calls Tryz.prog 171 #[.agg #[.string ⟨#[110, 111, 110, 101]⟩, .string ⟨#[112, 117, 116]⟩, .string ⟨#[103, 101, 116]⟩, .string ⟨#[101, 112, 111, 99, 104]⟩, .string ⟨#[106, 111, 105, 110]⟩, .string ⟨#[108, 101, 97, 118, 101]⟩, .string ⟨#[109, 97, 114, 107]⟩, .string ⟨#[114, 101, 97, 100]⟩, .string ⟨#[116, 105, 99, 107]⟩, .string ⟨#[116, 114, 105, 109]⟩, .string ⟨#[112, 97, 99, 107]⟩], .int .i64 1] w fun e w' => e = .returned (.agg #[.string ⟨#[110, 111, 110, 101]⟩, .string ⟨#[110, 111, 110, 101]⟩, .string ⟨#[103, 101, 116]⟩, .string ⟨#[101, 112, 111, 99, 104]⟩, .string ⟨#[106, 111, 105, 110]⟩, .string ⟨#[108, 101, 97, 118, 101]⟩, .string ⟨#[109, 97, 114, 107]⟩, .string ⟨#[114, 101, 97, 100]⟩, .string ⟨#[116, 105, 99, 107]⟩, .string ⟨#[116, 114, 105, 109]⟩, .string ⟨#[112, 97, 99, 107]⟩]) /\ Below w.heap.size w w' := by
  have h : inB 1 0 10 = true := by decide
  go_enter Tryz.func171, Tryz.ntmps171
  go_wp2_with (go_at_call 181; refine (reach_any _ _).mono ?_; rintro e w1 ⟨rfl, rfl⟩)
  exact bodyPost_ret (v := .agg #[.string ⟨#[110, 111, 110, 101]⟩, .string ⟨#[110, 111, 110, 101]⟩, .string ⟨#[103, 101, 116]⟩, .string ⟨#[101, 112, 111, 99, 104]⟩, .string ⟨#[106, 111, 105, 110]⟩, .string ⟨#[108, 101, 97, 118, 101]⟩, .string ⟨#[109, 97, 114, 107]⟩, .string ⟨#[114, 101, 97, 100]⟩, .string ⟨#[116, 105, 99, 107]⟩, .string ⟨#[116, 114, 105, 109]⟩, .string ⟨#[112, 97, 99, 107]⟩]) (by simp [results, Tryz.results171, go_sem]) rfl
    ⟨rfl, by repeat (first | exact Below.refl _ _ | (refine via (by assumption) (by first | omega | (simp; done) | (simp; omega)) ?_) | refine Below.drew ?_ | refine Below.setCell ?_ (by first | omega | (simp; done) | (simp; omega)) _ | refine Below.alloc ?_ (by first | omega | (simp; done) | (simp; omega)) _)⟩
theorem without_2 (w : World) :
    Calls Tryz.prog 171 #[.agg #[.string ⟨#[110, 111, 110, 101]⟩, .string ⟨#[112, 117, 116]⟩, .string ⟨#[103, 101, 116]⟩, .string ⟨#[101, 112, 111, 99, 104]⟩, .string ⟨#[106, 111, 105, 110]⟩, .string ⟨#[108, 101, 97, 118, 101]⟩, .string ⟨#[109, 97, 114, 107]⟩, .string ⟨#[114, 101, 97, 100]⟩, .string ⟨#[116, 105, 99, 107]⟩, .string ⟨#[116, 114, 105, 109]⟩, .string ⟨#[112, 97, 99, 107]⟩], .int .i64 2] w fun e w' => e = .returned (.agg #[.string ⟨#[110, 111, 110, 101]⟩, .string ⟨#[112, 117, 116]⟩, .string ⟨#[110, 111, 110, 101]⟩, .string ⟨#[101, 112, 111, 99, 104]⟩, .string ⟨#[106, 111, 105, 110]⟩, .string ⟨#[108, 101, 97, 118, 101]⟩, .string ⟨#[109, 97, 114, 107]⟩, .string ⟨#[114, 101, 97, 100]⟩, .string ⟨#[116, 105, 99, 107]⟩, .string ⟨#[116, 114, 105, 109]⟩, .string ⟨#[112, 97, 99, 107]⟩]) /\ Below w.heap.size w w' := by
  have h : inB 2 0 10 = true := by decide
  go_enter Tryz.func171, Tryz.ntmps171
  go_wp2_with (go_at_call 181; refine (reach_any _ _).mono ?_; rintro e w1 ⟨rfl, rfl⟩)
  exact bodyPost_ret (v := .agg #[.string ⟨#[110, 111, 110, 101]⟩, .string ⟨#[112, 117, 116]⟩, .string ⟨#[110, 111, 110, 101]⟩, .string ⟨#[101, 112, 111, 99, 104]⟩, .string ⟨#[106, 111, 105, 110]⟩, .string ⟨#[108, 101, 97, 118, 101]⟩, .string ⟨#[109, 97, 114, 107]⟩, .string ⟨#[114, 101, 97, 100]⟩, .string ⟨#[116, 105, 99, 107]⟩, .string ⟨#[116, 114, 105, 109]⟩, .string ⟨#[112, 97, 99, 107]⟩]) (by simp [results, Tryz.results171, go_sem]) rfl
    ⟨rfl, by repeat (first | exact Below.refl _ _ | (refine via (by assumption) (by first | omega | (simp; done) | (simp; omega)) ?_) | refine Below.drew ?_ | refine Below.setCell ?_ (by first | omega | (simp; done) | (simp; omega)) _ | refine Below.alloc ?_ (by first | omega | (simp; done) | (simp; omega)) _)⟩
theorem without_3 (w : World) :
    Calls Tryz.prog 171 #[.agg #[.string ⟨#[110, 111, 110, 101]⟩, .string ⟨#[112, 117, 116]⟩, .string ⟨#[103, 101, 116]⟩, .string ⟨#[101, 112, 111, 99, 104]⟩, .string ⟨#[106, 111, 105, 110]⟩, .string ⟨#[108, 101, 97, 118, 101]⟩, .string ⟨#[109, 97, 114, 107]⟩, .string ⟨#[114, 101, 97, 100]⟩, .string ⟨#[116, 105, 99, 107]⟩, .string ⟨#[116, 114, 105, 109]⟩, .string ⟨#[112, 97, 99, 107]⟩], .int .i64 3] w fun e w' => e = .returned (.agg #[.string ⟨#[110, 111, 110, 101]⟩, .string ⟨#[112, 117, 116]⟩, .string ⟨#[103, 101, 116]⟩, .string ⟨#[110, 111, 110, 101]⟩, .string ⟨#[106, 111, 105, 110]⟩, .string ⟨#[108, 101, 97, 118, 101]⟩, .string ⟨#[109, 97, 114, 107]⟩, .string ⟨#[114, 101, 97, 100]⟩, .string ⟨#[116, 105, 99, 107]⟩, .string ⟨#[116, 114, 105, 109]⟩, .string ⟨#[112, 97, 99, 107]⟩]) /\ Below w.heap.size w w' := by
  have h : inB 3 0 10 = true := by decide
  go_enter Tryz.func171, Tryz.ntmps171
  go_wp2_with (go_at_call 181; refine (reach_any _ _).mono ?_; rintro e w1 ⟨rfl, rfl⟩)
  exact bodyPost_ret (v := .agg #[.string ⟨#[110, 111, 110, 101]⟩, .string ⟨#[112, 117, 116]⟩, .string ⟨#[103, 101, 116]⟩, .string ⟨#[110, 111, 110, 101]⟩, .string ⟨#[106, 111, 105, 110]⟩, .string ⟨#[108, 101, 97, 118, 101]⟩, .string ⟨#[109, 97, 114, 107]⟩, .string ⟨#[114, 101, 97, 100]⟩, .string ⟨#[116, 105, 99, 107]⟩, .string ⟨#[116, 114, 105, 109]⟩, .string ⟨#[112, 97, 99, 107]⟩]) (by simp [results, Tryz.results171, go_sem]) rfl
    ⟨rfl, by repeat (first | exact Below.refl _ _ | (refine via (by assumption) (by first | omega | (simp; done) | (simp; omega)) ?_) | refine Below.drew ?_ | refine Below.setCell ?_ (by first | omega | (simp; done) | (simp; omega)) _ | refine Below.alloc ?_ (by first | omega | (simp; done) | (simp; omega)) _)⟩
theorem without_4 (w : World) :
    Calls Tryz.prog 171 #[.agg #[.string ⟨#[110, 111, 110, 101]⟩, .string ⟨#[112, 117, 116]⟩, .string ⟨#[103, 101, 116]⟩, .string ⟨#[101, 112, 111, 99, 104]⟩, .string ⟨#[106, 111, 105, 110]⟩, .string ⟨#[108, 101, 97, 118, 101]⟩, .string ⟨#[109, 97, 114, 107]⟩, .string ⟨#[114, 101, 97, 100]⟩, .string ⟨#[116, 105, 99, 107]⟩, .string ⟨#[116, 114, 105, 109]⟩, .string ⟨#[112, 97, 99, 107]⟩], .int .i64 4] w fun e w' => e = .returned (.agg #[.string ⟨#[110, 111, 110, 101]⟩, .string ⟨#[112, 117, 116]⟩, .string ⟨#[103, 101, 116]⟩, .string ⟨#[101, 112, 111, 99, 104]⟩, .string ⟨#[110, 111, 110, 101]⟩, .string ⟨#[108, 101, 97, 118, 101]⟩, .string ⟨#[109, 97, 114, 107]⟩, .string ⟨#[114, 101, 97, 100]⟩, .string ⟨#[116, 105, 99, 107]⟩, .string ⟨#[116, 114, 105, 109]⟩, .string ⟨#[112, 97, 99, 107]⟩]) /\ Below w.heap.size w w' := by
  have h : inB 4 0 10 = true := by decide
  go_enter Tryz.func171, Tryz.ntmps171
  go_wp2_with (go_at_call 181; refine (reach_any _ _).mono ?_; rintro e w1 ⟨rfl, rfl⟩)
  exact bodyPost_ret (v := .agg #[.string ⟨#[110, 111, 110, 101]⟩, .string ⟨#[112, 117, 116]⟩, .string ⟨#[103, 101, 116]⟩, .string ⟨#[101, 112, 111, 99, 104]⟩, .string ⟨#[110, 111, 110, 101]⟩, .string ⟨#[108, 101, 97, 118, 101]⟩, .string ⟨#[109, 97, 114, 107]⟩, .string ⟨#[114, 101, 97, 100]⟩, .string ⟨#[116, 105, 99, 107]⟩, .string ⟨#[116, 114, 105, 109]⟩, .string ⟨#[112, 97, 99, 107]⟩]) (by simp [results, Tryz.results171, go_sem]) rfl
    ⟨rfl, by repeat (first | exact Below.refl _ _ | (refine via (by assumption) (by first | omega | (simp; done) | (simp; omega)) ?_) | refine Below.drew ?_ | refine Below.setCell ?_ (by first | omega | (simp; done) | (simp; omega)) _ | refine Below.alloc ?_ (by first | omega | (simp; done) | (simp; omega)) _)⟩
theorem without_5 (w : World) :
    Calls Tryz.prog 171 #[.agg #[.string ⟨#[110, 111, 110, 101]⟩, .string ⟨#[112, 117, 116]⟩, .string ⟨#[103, 101, 116]⟩, .string ⟨#[101, 112, 111, 99, 104]⟩, .string ⟨#[106, 111, 105, 110]⟩, .string ⟨#[108, 101, 97, 118, 101]⟩, .string ⟨#[109, 97, 114, 107]⟩, .string ⟨#[114, 101, 97, 100]⟩, .string ⟨#[116, 105, 99, 107]⟩, .string ⟨#[116, 114, 105, 109]⟩, .string ⟨#[112, 97, 99, 107]⟩], .int .i64 5] w fun e w' => e = .returned (.agg #[.string ⟨#[110, 111, 110, 101]⟩, .string ⟨#[112, 117, 116]⟩, .string ⟨#[103, 101, 116]⟩, .string ⟨#[101, 112, 111, 99, 104]⟩, .string ⟨#[106, 111, 105, 110]⟩, .string ⟨#[110, 111, 110, 101]⟩, .string ⟨#[109, 97, 114, 107]⟩, .string ⟨#[114, 101, 97, 100]⟩, .string ⟨#[116, 105, 99, 107]⟩, .string ⟨#[116, 114, 105, 109]⟩, .string ⟨#[112, 97, 99, 107]⟩]) /\ Below w.heap.size w w' := by
  have h : inB 5 0 10 = true := by decide
  go_enter Tryz.func171, Tryz.ntmps171
  go_wp2_with (go_at_call 181; refine (reach_any _ _).mono ?_; rintro e w1 ⟨rfl, rfl⟩)
  exact bodyPost_ret (v := .agg #[.string ⟨#[110, 111, 110, 101]⟩, .string ⟨#[112, 117, 116]⟩, .string ⟨#[103, 101, 116]⟩, .string ⟨#[101, 112, 111, 99, 104]⟩, .string ⟨#[106, 111, 105, 110]⟩, .string ⟨#[110, 111, 110, 101]⟩, .string ⟨#[109, 97, 114, 107]⟩, .string ⟨#[114, 101, 97, 100]⟩, .string ⟨#[116, 105, 99, 107]⟩, .string ⟨#[116, 114, 105, 109]⟩, .string ⟨#[112, 97, 99, 107]⟩]) (by simp [results, Tryz.results171, go_sem]) rfl
    ⟨rfl, by repeat (first | exact Below.refl _ _ | (refine via (by assumption) (by first | omega | (simp; done) | (simp; omega)) ?_) | refine Below.drew ?_ | refine Below.setCell ?_ (by first | omega | (simp; done) | (simp; omega)) _ | refine Below.alloc ?_ (by first | omega | (simp; done) | (simp; omega)) _)⟩
theorem without_6 (w : World) :
    Calls Tryz.prog 171 #[.agg #[.string ⟨#[110, 111, 110, 101]⟩, .string ⟨#[112, 117, 116]⟩, .string ⟨#[103, 101, 116]⟩, .string ⟨#[101, 112, 111, 99, 104]⟩, .string ⟨#[106, 111, 105, 110]⟩, .string ⟨#[108, 101, 97, 118, 101]⟩, .string ⟨#[109, 97, 114, 107]⟩, .string ⟨#[114, 101, 97, 100]⟩, .string ⟨#[116, 105, 99, 107]⟩, .string ⟨#[116, 114, 105, 109]⟩, .string ⟨#[112, 97, 99, 107]⟩], .int .i64 6] w fun e w' => e = .returned (.agg #[.string ⟨#[110, 111, 110, 101]⟩, .string ⟨#[112, 117, 116]⟩, .string ⟨#[103, 101, 116]⟩, .string ⟨#[101, 112, 111, 99, 104]⟩, .string ⟨#[106, 111, 105, 110]⟩, .string ⟨#[108, 101, 97, 118, 101]⟩, .string ⟨#[110, 111, 110, 101]⟩, .string ⟨#[114, 101, 97, 100]⟩, .string ⟨#[116, 105, 99, 107]⟩, .string ⟨#[116, 114, 105, 109]⟩, .string ⟨#[112, 97, 99, 107]⟩]) /\ Below w.heap.size w w' := by
  have h : inB 6 0 10 = true := by decide
  go_enter Tryz.func171, Tryz.ntmps171
  go_wp2_with (go_at_call 181; refine (reach_any _ _).mono ?_; rintro e w1 ⟨rfl, rfl⟩)
  exact bodyPost_ret (v := .agg #[.string ⟨#[110, 111, 110, 101]⟩, .string ⟨#[112, 117, 116]⟩, .string ⟨#[103, 101, 116]⟩, .string ⟨#[101, 112, 111, 99, 104]⟩, .string ⟨#[106, 111, 105, 110]⟩, .string ⟨#[108, 101, 97, 118, 101]⟩, .string ⟨#[110, 111, 110, 101]⟩, .string ⟨#[114, 101, 97, 100]⟩, .string ⟨#[116, 105, 99, 107]⟩, .string ⟨#[116, 114, 105, 109]⟩, .string ⟨#[112, 97, 99, 107]⟩]) (by simp [results, Tryz.results171, go_sem]) rfl
    ⟨rfl, by repeat (first | exact Below.refl _ _ | (refine via (by assumption) (by first | omega | (simp; done) | (simp; omega)) ?_) | refine Below.drew ?_ | refine Below.setCell ?_ (by first | omega | (simp; done) | (simp; omega)) _ | refine Below.alloc ?_ (by first | omega | (simp; done) | (simp; omega)) _)⟩
theorem without_7 (w : World) :
    Calls Tryz.prog 171 #[.agg #[.string ⟨#[110, 111, 110, 101]⟩, .string ⟨#[112, 117, 116]⟩, .string ⟨#[103, 101, 116]⟩, .string ⟨#[101, 112, 111, 99, 104]⟩, .string ⟨#[106, 111, 105, 110]⟩, .string ⟨#[108, 101, 97, 118, 101]⟩, .string ⟨#[109, 97, 114, 107]⟩, .string ⟨#[114, 101, 97, 100]⟩, .string ⟨#[116, 105, 99, 107]⟩, .string ⟨#[116, 114, 105, 109]⟩, .string ⟨#[112, 97, 99, 107]⟩], .int .i64 7] w fun e w' => e = .returned (.agg #[.string ⟨#[110, 111, 110, 101]⟩, .string ⟨#[112, 117, 116]⟩, .string ⟨#[103, 101, 116]⟩, .string ⟨#[101, 112, 111, 99, 104]⟩, .string ⟨#[106, 111, 105, 110]⟩, .string ⟨#[108, 101, 97, 118, 101]⟩, .string ⟨#[109, 97, 114, 107]⟩, .string ⟨#[110, 111, 110, 101]⟩, .string ⟨#[116, 105, 99, 107]⟩, .string ⟨#[116, 114, 105, 109]⟩, .string ⟨#[112, 97, 99, 107]⟩]) /\ Below w.heap.size w w' := by
  have h : inB 7 0 10 = true := by decide
  go_enter Tryz.func171, Tryz.ntmps171
  go_wp2_with (go_at_call 181; refine (reach_any _ _).mono ?_; rintro e w1 ⟨rfl, rfl⟩)
  exact bodyPost_ret (v := .agg #[.string ⟨#[110, 111, 110, 101]⟩, .string ⟨#[112, 117, 116]⟩, .string ⟨#[103, 101, 116]⟩, .string ⟨#[101, 112, 111, 99, 104]⟩, .string ⟨#[106, 111, 105, 110]⟩, .string ⟨#[108, 101, 97, 118, 101]⟩, .string ⟨#[109, 97, 114, 107]⟩, .string ⟨#[110, 111, 110, 101]⟩, .string ⟨#[116, 105, 99, 107]⟩, .string ⟨#[116, 114, 105, 109]⟩, .string ⟨#[112, 97, 99, 107]⟩]) (by simp [results, Tryz.results171, go_sem]) rfl
    ⟨rfl, by repeat (first | exact Below.refl _ _ | (refine via (by assumption) (by first | omega | (simp; done) | (simp; omega)) ?_) | refine Below.drew ?_ | refine Below.setCell ?_ (by first | omega | (simp; done) | (simp; omega)) _ | refine Below.alloc ?_ (by first | omega | (simp; done) | (simp; omega)) _)⟩
theorem without_8 (w : World) :
    Calls Tryz.prog 171 #[.agg #[.string ⟨#[110, 111, 110, 101]⟩, .string ⟨#[112, 117, 116]⟩, .string ⟨#[103, 101, 116]⟩, .string ⟨#[101, 112, 111, 99, 104]⟩, .string ⟨#[106, 111, 105, 110]⟩, .string ⟨#[108, 101, 97, 118, 101]⟩, .string ⟨#[109, 97, 114, 107]⟩, .string ⟨#[114, 101, 97, 100]⟩, .string ⟨#[116, 105, 99, 107]⟩, .string ⟨#[116, 114, 105, 109]⟩, .string ⟨#[112, 97, 99, 107]⟩], .int .i64 8] w fun e w' => e = .returned (.agg #[.string ⟨#[110, 111, 110, 101]⟩, .string ⟨#[112, 117, 116]⟩, .string ⟨#[103, 101, 116]⟩, .string ⟨#[101, 112, 111, 99, 104]⟩, .string ⟨#[106, 111, 105, 110]⟩, .string ⟨#[108, 101, 97, 118, 101]⟩, .string ⟨#[109, 97, 114, 107]⟩, .string ⟨#[114, 101, 97, 100]⟩, .string ⟨#[110, 111, 110, 101]⟩, .string ⟨#[116, 114, 105, 109]⟩, .string ⟨#[112, 97, 99, 107]⟩]) /\ Below w.heap.size w w' := by
  have h : inB 8 0 10 = true := by decide
  go_enter Tryz.func171, Tryz.ntmps171
  go_wp2_with (go_at_call 181; refine (reach_any _ _).mono ?_; rintro e w1 ⟨rfl, rfl⟩)
  exact bodyPost_ret (v := .agg #[.string ⟨#[110, 111, 110, 101]⟩, .string ⟨#[112, 117, 116]⟩, .string ⟨#[103, 101, 116]⟩, .string ⟨#[101, 112, 111, 99, 104]⟩, .string ⟨#[106, 111, 105, 110]⟩, .string ⟨#[108, 101, 97, 118, 101]⟩, .string ⟨#[109, 97, 114, 107]⟩, .string ⟨#[114, 101, 97, 100]⟩, .string ⟨#[110, 111, 110, 101]⟩, .string ⟨#[116, 114, 105, 109]⟩, .string ⟨#[112, 97, 99, 107]⟩]) (by simp [results, Tryz.results171, go_sem]) rfl
    ⟨rfl, by repeat (first | exact Below.refl _ _ | (refine via (by assumption) (by first | omega | (simp; done) | (simp; omega)) ?_) | refine Below.drew ?_ | refine Below.setCell ?_ (by first | omega | (simp; done) | (simp; omega)) _ | refine Below.alloc ?_ (by first | omega | (simp; done) | (simp; omega)) _)⟩
theorem without_9 (w : World) :
    Calls Tryz.prog 171 #[.agg #[.string ⟨#[110, 111, 110, 101]⟩, .string ⟨#[112, 117, 116]⟩, .string ⟨#[103, 101, 116]⟩, .string ⟨#[101, 112, 111, 99, 104]⟩, .string ⟨#[106, 111, 105, 110]⟩, .string ⟨#[108, 101, 97, 118, 101]⟩, .string ⟨#[109, 97, 114, 107]⟩, .string ⟨#[114, 101, 97, 100]⟩, .string ⟨#[116, 105, 99, 107]⟩, .string ⟨#[116, 114, 105, 109]⟩, .string ⟨#[112, 97, 99, 107]⟩], .int .i64 9] w fun e w' => e = .returned (.agg #[.string ⟨#[110, 111, 110, 101]⟩, .string ⟨#[112, 117, 116]⟩, .string ⟨#[103, 101, 116]⟩, .string ⟨#[101, 112, 111, 99, 104]⟩, .string ⟨#[106, 111, 105, 110]⟩, .string ⟨#[108, 101, 97, 118, 101]⟩, .string ⟨#[109, 97, 114, 107]⟩, .string ⟨#[114, 101, 97, 100]⟩, .string ⟨#[116, 105, 99, 107]⟩, .string ⟨#[110, 111, 110, 101]⟩, .string ⟨#[112, 97, 99, 107]⟩]) /\ Below w.heap.size w w' := by
  have h : inB 9 0 10 = true := by decide
  go_enter Tryz.func171, Tryz.ntmps171
  go_wp2_with (go_at_call 181; refine (reach_any _ _).mono ?_; rintro e w1 ⟨rfl, rfl⟩)
  exact bodyPost_ret (v := .agg #[.string ⟨#[110, 111, 110, 101]⟩, .string ⟨#[112, 117, 116]⟩, .string ⟨#[103, 101, 116]⟩, .string ⟨#[101, 112, 111, 99, 104]⟩, .string ⟨#[106, 111, 105, 110]⟩, .string ⟨#[108, 101, 97, 118, 101]⟩, .string ⟨#[109, 97, 114, 107]⟩, .string ⟨#[114, 101, 97, 100]⟩, .string ⟨#[116, 105, 99, 107]⟩, .string ⟨#[110, 111, 110, 101]⟩, .string ⟨#[112, 97, 99, 107]⟩]) (by simp [results, Tryz.results171, go_sem]) rfl
    ⟨rfl, by repeat (first | exact Below.refl _ _ | (refine via (by assumption) (by first | omega | (simp; done) | (simp; omega)) ?_) | refine Below.drew ?_ | refine Below.setCell ?_ (by first | omega | (simp; done) | (simp; omega)) _ | refine Below.alloc ?_ (by first | omega | (simp; done) | (simp; omega)) _)⟩
theorem without_10 (w : World) :
    Calls Tryz.prog 171 #[.agg #[.string ⟨#[110, 111, 110, 101]⟩, .string ⟨#[112, 117, 116]⟩, .string ⟨#[103, 101, 116]⟩, .string ⟨#[101, 112, 111, 99, 104]⟩, .string ⟨#[106, 111, 105, 110]⟩, .string ⟨#[108, 101, 97, 118, 101]⟩, .string ⟨#[109, 97, 114, 107]⟩, .string ⟨#[114, 101, 97, 100]⟩, .string ⟨#[116, 105, 99, 107]⟩, .string ⟨#[116, 114, 105, 109]⟩, .string ⟨#[112, 97, 99, 107]⟩], .int .i64 10] w fun e w' => e = .returned (.agg #[.string ⟨#[110, 111, 110, 101]⟩, .string ⟨#[112, 117, 116]⟩, .string ⟨#[103, 101, 116]⟩, .string ⟨#[101, 112, 111, 99, 104]⟩, .string ⟨#[106, 111, 105, 110]⟩, .string ⟨#[108, 101, 97, 118, 101]⟩, .string ⟨#[109, 97, 114, 107]⟩, .string ⟨#[114, 101, 97, 100]⟩, .string ⟨#[116, 105, 99, 107]⟩, .string ⟨#[116, 114, 105, 109]⟩, .string ⟨#[110, 111, 110, 101]⟩]) /\ Below w.heap.size w w' := by
  have h : inB 10 0 10 = true := by decide
  go_enter Tryz.func171, Tryz.ntmps171
  go_wp2_with (go_at_call 181; refine (reach_any _ _).mono ?_; rintro e w1 ⟨rfl, rfl⟩)
  exact bodyPost_ret (v := .agg #[.string ⟨#[110, 111, 110, 101]⟩, .string ⟨#[112, 117, 116]⟩, .string ⟨#[103, 101, 116]⟩, .string ⟨#[101, 112, 111, 99, 104]⟩, .string ⟨#[106, 111, 105, 110]⟩, .string ⟨#[108, 101, 97, 118, 101]⟩, .string ⟨#[109, 97, 114, 107]⟩, .string ⟨#[114, 101, 97, 100]⟩, .string ⟨#[116, 105, 99, 107]⟩, .string ⟨#[116, 114, 105, 109]⟩, .string ⟨#[110, 111, 110, 101]⟩]) (by simp [results, Tryz.results171, go_sem]) rfl
    ⟨rfl, by repeat (first | exact Below.refl _ _ | (refine via (by assumption) (by first | omega | (simp; done) | (simp; omega)) ?_) | refine Below.drew ?_ | refine Below.setCell ?_ (by first | omega | (simp; done) | (simp; omega)) _ | refine Below.alloc ?_ (by first | omega | (simp; done) | (simp; omega)) _)⟩
end Go.Proofs.YtaefjifcnoiplaaGreat.CmdOk

/-
  isOp at this seat: an Op is right when it has a name. No condition.
-/
namespace Go.Proofs.YtaefjifcnoiplaaGreat.CmdOk
open Go.ChangeShapes Go.WideShapes Go.ChangeAt Go.RowKit Go.Joins Base
set_option linter.unusedVariables false
theorem op_ways (op : Int) : inB op 0 10 = false ∨ op = 0 ∨ op = 1 ∨ op = 2 ∨ op = 3 ∨ op = 4 ∨ op = 5 ∨ op = 6 ∨ op = 7 ∨ op = 8 ∨ op = 9 ∨ op = 10 := by
  simp only [inB, decide_eq_false_iff_not]
  omega
theorem same_names (w : World) : (Op.equalIn 10000 233 (.agg #[.string ⟨#[110, 111, 110, 101]⟩, .string ⟨#[112, 117, 116]⟩, .string ⟨#[103, 101, 116]⟩, .string ⟨#[101, 112, 111, 99, 104]⟩, .string ⟨#[106, 111, 105, 110]⟩, .string ⟨#[108, 101, 97, 118, 101]⟩, .string ⟨#[109, 97, 114, 107]⟩, .string ⟨#[114, 101, 97, 100]⟩, .string ⟨#[116, 105, 99, 107]⟩, .string ⟨#[116, 114, 105, 109]⟩, .string ⟨#[112, 97, 99, 107]⟩]) (.agg #[.string ⟨#[110, 111, 110, 101]⟩, .string ⟨#[112, 117, 116]⟩, .string ⟨#[103, 101, 116]⟩, .string ⟨#[101, 112, 111, 99, 104]⟩, .string ⟨#[106, 111, 105, 110]⟩, .string ⟨#[108, 101, 97, 118, 101]⟩, .string ⟨#[109, 97, 114, 107]⟩, .string ⟨#[114, 101, 97, 100]⟩, .string ⟨#[116, 105, 99, 107]⟩, .string ⟨#[116, 114, 105, 109]⟩, .string ⟨#[112, 97, 99, 107]⟩])).run Tryz.prog w = .ok true w := by kernel_rfl
theorem other_names1 (w : World) : (Op.equalIn 10000 233 (.agg #[.string ⟨#[110, 111, 110, 101]⟩, .string ⟨#[110, 111, 110, 101]⟩, .string ⟨#[103, 101, 116]⟩, .string ⟨#[101, 112, 111, 99, 104]⟩, .string ⟨#[106, 111, 105, 110]⟩, .string ⟨#[108, 101, 97, 118, 101]⟩, .string ⟨#[109, 97, 114, 107]⟩, .string ⟨#[114, 101, 97, 100]⟩, .string ⟨#[116, 105, 99, 107]⟩, .string ⟨#[116, 114, 105, 109]⟩, .string ⟨#[112, 97, 99, 107]⟩]) (.agg #[.string ⟨#[110, 111, 110, 101]⟩, .string ⟨#[112, 117, 116]⟩, .string ⟨#[103, 101, 116]⟩, .string ⟨#[101, 112, 111, 99, 104]⟩, .string ⟨#[106, 111, 105, 110]⟩, .string ⟨#[108, 101, 97, 118, 101]⟩, .string ⟨#[109, 97, 114, 107]⟩, .string ⟨#[114, 101, 97, 100]⟩, .string ⟨#[116, 105, 99, 107]⟩, .string ⟨#[116, 114, 105, 109]⟩, .string ⟨#[112, 97, 99, 107]⟩])).run Tryz.prog w = .ok false w := by kernel_rfl
theorem other_names2 (w : World) : (Op.equalIn 10000 233 (.agg #[.string ⟨#[110, 111, 110, 101]⟩, .string ⟨#[112, 117, 116]⟩, .string ⟨#[110, 111, 110, 101]⟩, .string ⟨#[101, 112, 111, 99, 104]⟩, .string ⟨#[106, 111, 105, 110]⟩, .string ⟨#[108, 101, 97, 118, 101]⟩, .string ⟨#[109, 97, 114, 107]⟩, .string ⟨#[114, 101, 97, 100]⟩, .string ⟨#[116, 105, 99, 107]⟩, .string ⟨#[116, 114, 105, 109]⟩, .string ⟨#[112, 97, 99, 107]⟩]) (.agg #[.string ⟨#[110, 111, 110, 101]⟩, .string ⟨#[112, 117, 116]⟩, .string ⟨#[103, 101, 116]⟩, .string ⟨#[101, 112, 111, 99, 104]⟩, .string ⟨#[106, 111, 105, 110]⟩, .string ⟨#[108, 101, 97, 118, 101]⟩, .string ⟨#[109, 97, 114, 107]⟩, .string ⟨#[114, 101, 97, 100]⟩, .string ⟨#[116, 105, 99, 107]⟩, .string ⟨#[116, 114, 105, 109]⟩, .string ⟨#[112, 97, 99, 107]⟩])).run Tryz.prog w = .ok false w := by kernel_rfl
theorem other_names3 (w : World) : (Op.equalIn 10000 233 (.agg #[.string ⟨#[110, 111, 110, 101]⟩, .string ⟨#[112, 117, 116]⟩, .string ⟨#[103, 101, 116]⟩, .string ⟨#[110, 111, 110, 101]⟩, .string ⟨#[106, 111, 105, 110]⟩, .string ⟨#[108, 101, 97, 118, 101]⟩, .string ⟨#[109, 97, 114, 107]⟩, .string ⟨#[114, 101, 97, 100]⟩, .string ⟨#[116, 105, 99, 107]⟩, .string ⟨#[116, 114, 105, 109]⟩, .string ⟨#[112, 97, 99, 107]⟩]) (.agg #[.string ⟨#[110, 111, 110, 101]⟩, .string ⟨#[112, 117, 116]⟩, .string ⟨#[103, 101, 116]⟩, .string ⟨#[101, 112, 111, 99, 104]⟩, .string ⟨#[106, 111, 105, 110]⟩, .string ⟨#[108, 101, 97, 118, 101]⟩, .string ⟨#[109, 97, 114, 107]⟩, .string ⟨#[114, 101, 97, 100]⟩, .string ⟨#[116, 105, 99, 107]⟩, .string ⟨#[116, 114, 105, 109]⟩, .string ⟨#[112, 97, 99, 107]⟩])).run Tryz.prog w = .ok false w := by kernel_rfl
theorem other_names4 (w : World) : (Op.equalIn 10000 233 (.agg #[.string ⟨#[110, 111, 110, 101]⟩, .string ⟨#[112, 117, 116]⟩, .string ⟨#[103, 101, 116]⟩, .string ⟨#[101, 112, 111, 99, 104]⟩, .string ⟨#[110, 111, 110, 101]⟩, .string ⟨#[108, 101, 97, 118, 101]⟩, .string ⟨#[109, 97, 114, 107]⟩, .string ⟨#[114, 101, 97, 100]⟩, .string ⟨#[116, 105, 99, 107]⟩, .string ⟨#[116, 114, 105, 109]⟩, .string ⟨#[112, 97, 99, 107]⟩]) (.agg #[.string ⟨#[110, 111, 110, 101]⟩, .string ⟨#[112, 117, 116]⟩, .string ⟨#[103, 101, 116]⟩, .string ⟨#[101, 112, 111, 99, 104]⟩, .string ⟨#[106, 111, 105, 110]⟩, .string ⟨#[108, 101, 97, 118, 101]⟩, .string ⟨#[109, 97, 114, 107]⟩, .string ⟨#[114, 101, 97, 100]⟩, .string ⟨#[116, 105, 99, 107]⟩, .string ⟨#[116, 114, 105, 109]⟩, .string ⟨#[112, 97, 99, 107]⟩])).run Tryz.prog w = .ok false w := by kernel_rfl
theorem other_names5 (w : World) : (Op.equalIn 10000 233 (.agg #[.string ⟨#[110, 111, 110, 101]⟩, .string ⟨#[112, 117, 116]⟩, .string ⟨#[103, 101, 116]⟩, .string ⟨#[101, 112, 111, 99, 104]⟩, .string ⟨#[106, 111, 105, 110]⟩, .string ⟨#[110, 111, 110, 101]⟩, .string ⟨#[109, 97, 114, 107]⟩, .string ⟨#[114, 101, 97, 100]⟩, .string ⟨#[116, 105, 99, 107]⟩, .string ⟨#[116, 114, 105, 109]⟩, .string ⟨#[112, 97, 99, 107]⟩]) (.agg #[.string ⟨#[110, 111, 110, 101]⟩, .string ⟨#[112, 117, 116]⟩, .string ⟨#[103, 101, 116]⟩, .string ⟨#[101, 112, 111, 99, 104]⟩, .string ⟨#[106, 111, 105, 110]⟩, .string ⟨#[108, 101, 97, 118, 101]⟩, .string ⟨#[109, 97, 114, 107]⟩, .string ⟨#[114, 101, 97, 100]⟩, .string ⟨#[116, 105, 99, 107]⟩, .string ⟨#[116, 114, 105, 109]⟩, .string ⟨#[112, 97, 99, 107]⟩])).run Tryz.prog w = .ok false w := by kernel_rfl
theorem other_names6 (w : World) : (Op.equalIn 10000 233 (.agg #[.string ⟨#[110, 111, 110, 101]⟩, .string ⟨#[112, 117, 116]⟩, .string ⟨#[103, 101, 116]⟩, .string ⟨#[101, 112, 111, 99, 104]⟩, .string ⟨#[106, 111, 105, 110]⟩, .string ⟨#[108, 101, 97, 118, 101]⟩, .string ⟨#[110, 111, 110, 101]⟩, .string ⟨#[114, 101, 97, 100]⟩, .string ⟨#[116, 105, 99, 107]⟩, .string ⟨#[116, 114, 105, 109]⟩, .string ⟨#[112, 97, 99, 107]⟩]) (.agg #[.string ⟨#[110, 111, 110, 101]⟩, .string ⟨#[112, 117, 116]⟩, .string ⟨#[103, 101, 116]⟩, .string ⟨#[101, 112, 111, 99, 104]⟩, .string ⟨#[106, 111, 105, 110]⟩, .string ⟨#[108, 101, 97, 118, 101]⟩, .string ⟨#[109, 97, 114, 107]⟩, .string ⟨#[114, 101, 97, 100]⟩, .string ⟨#[116, 105, 99, 107]⟩, .string ⟨#[116, 114, 105, 109]⟩, .string ⟨#[112, 97, 99, 107]⟩])).run Tryz.prog w = .ok false w := by kernel_rfl
theorem other_names7 (w : World) : (Op.equalIn 10000 233 (.agg #[.string ⟨#[110, 111, 110, 101]⟩, .string ⟨#[112, 117, 116]⟩, .string ⟨#[103, 101, 116]⟩, .string ⟨#[101, 112, 111, 99, 104]⟩, .string ⟨#[106, 111, 105, 110]⟩, .string ⟨#[108, 101, 97, 118, 101]⟩, .string ⟨#[109, 97, 114, 107]⟩, .string ⟨#[110, 111, 110, 101]⟩, .string ⟨#[116, 105, 99, 107]⟩, .string ⟨#[116, 114, 105, 109]⟩, .string ⟨#[112, 97, 99, 107]⟩]) (.agg #[.string ⟨#[110, 111, 110, 101]⟩, .string ⟨#[112, 117, 116]⟩, .string ⟨#[103, 101, 116]⟩, .string ⟨#[101, 112, 111, 99, 104]⟩, .string ⟨#[106, 111, 105, 110]⟩, .string ⟨#[108, 101, 97, 118, 101]⟩, .string ⟨#[109, 97, 114, 107]⟩, .string ⟨#[114, 101, 97, 100]⟩, .string ⟨#[116, 105, 99, 107]⟩, .string ⟨#[116, 114, 105, 109]⟩, .string ⟨#[112, 97, 99, 107]⟩])).run Tryz.prog w = .ok false w := by kernel_rfl
theorem other_names8 (w : World) : (Op.equalIn 10000 233 (.agg #[.string ⟨#[110, 111, 110, 101]⟩, .string ⟨#[112, 117, 116]⟩, .string ⟨#[103, 101, 116]⟩, .string ⟨#[101, 112, 111, 99, 104]⟩, .string ⟨#[106, 111, 105, 110]⟩, .string ⟨#[108, 101, 97, 118, 101]⟩, .string ⟨#[109, 97, 114, 107]⟩, .string ⟨#[114, 101, 97, 100]⟩, .string ⟨#[110, 111, 110, 101]⟩, .string ⟨#[116, 114, 105, 109]⟩, .string ⟨#[112, 97, 99, 107]⟩]) (.agg #[.string ⟨#[110, 111, 110, 101]⟩, .string ⟨#[112, 117, 116]⟩, .string ⟨#[103, 101, 116]⟩, .string ⟨#[101, 112, 111, 99, 104]⟩, .string ⟨#[106, 111, 105, 110]⟩, .string ⟨#[108, 101, 97, 118, 101]⟩, .string ⟨#[109, 97, 114, 107]⟩, .string ⟨#[114, 101, 97, 100]⟩, .string ⟨#[116, 105, 99, 107]⟩, .string ⟨#[116, 114, 105, 109]⟩, .string ⟨#[112, 97, 99, 107]⟩])).run Tryz.prog w = .ok false w := by kernel_rfl
theorem other_names9 (w : World) : (Op.equalIn 10000 233 (.agg #[.string ⟨#[110, 111, 110, 101]⟩, .string ⟨#[112, 117, 116]⟩, .string ⟨#[103, 101, 116]⟩, .string ⟨#[101, 112, 111, 99, 104]⟩, .string ⟨#[106, 111, 105, 110]⟩, .string ⟨#[108, 101, 97, 118, 101]⟩, .string ⟨#[109, 97, 114, 107]⟩, .string ⟨#[114, 101, 97, 100]⟩, .string ⟨#[116, 105, 99, 107]⟩, .string ⟨#[110, 111, 110, 101]⟩, .string ⟨#[112, 97, 99, 107]⟩]) (.agg #[.string ⟨#[110, 111, 110, 101]⟩, .string ⟨#[112, 117, 116]⟩, .string ⟨#[103, 101, 116]⟩, .string ⟨#[101, 112, 111, 99, 104]⟩, .string ⟨#[106, 111, 105, 110]⟩, .string ⟨#[108, 101, 97, 118, 101]⟩, .string ⟨#[109, 97, 114, 107]⟩, .string ⟨#[114, 101, 97, 100]⟩, .string ⟨#[116, 105, 99, 107]⟩, .string ⟨#[116, 114, 105, 109]⟩, .string ⟨#[112, 97, 99, 107]⟩])).run Tryz.prog w = .ok false w := by kernel_rfl
theorem other_names10 (w : World) : (Op.equalIn 10000 233 (.agg #[.string ⟨#[110, 111, 110, 101]⟩, .string ⟨#[112, 117, 116]⟩, .string ⟨#[103, 101, 116]⟩, .string ⟨#[101, 112, 111, 99, 104]⟩, .string ⟨#[106, 111, 105, 110]⟩, .string ⟨#[108, 101, 97, 118, 101]⟩, .string ⟨#[109, 97, 114, 107]⟩, .string ⟨#[114, 101, 97, 100]⟩, .string ⟨#[116, 105, 99, 107]⟩, .string ⟨#[116, 114, 105, 109]⟩, .string ⟨#[110, 111, 110, 101]⟩]) (.agg #[.string ⟨#[110, 111, 110, 101]⟩, .string ⟨#[112, 117, 116]⟩, .string ⟨#[103, 101, 116]⟩, .string ⟨#[101, 112, 111, 99, 104]⟩, .string ⟨#[106, 111, 105, 110]⟩, .string ⟨#[108, 101, 97, 118, 101]⟩, .string ⟨#[109, 97, 114, 107]⟩, .string ⟨#[114, 101, 97, 100]⟩, .string ⟨#[116, 105, 99, 107]⟩, .string ⟨#[116, 114, 105, 109]⟩, .string ⟨#[112, 97, 99, 107]⟩])).run Tryz.prog w = .ok false w := by kernel_rfl
theorem isOp_out (op : Int) (h : inB op 0 10 = false) (w : World) :
    Calls Tryz.prog 144 #[.int .i64 op] w fun e w' => e = .returned (.bool false) /\ Below w.heap.size w w' := by
  have heq := same_names
  go_enter Tryz.func144, Tryz.ntmps144
  go_wp2_with (go_at_call 170; refine (names_any _).mono ?_; rintro e w1 ⟨rfl, g1⟩; obtain ⟨c1, f1⟩ := bcell g1; have s1 := g1.size; try simp at s1)
  go_region_with (go_at_call 171; refine (without_out _ h _).mono ?_; rintro e w2 ⟨rfl, g2⟩; obtain ⟨c2, f2⟩ := bcell g2; have s2 := g2.size; try simp at s2; have q2 : w1.heap.size < w2.heap.size := by omega)
  all_goals
    go_wp2
    go_ret
    refine ⟨rfl, ?_⟩
    repeat (first | exact Below.refl _ _ | (refine via (by assumption) (by first | omega | (simp; done) | (simp; omega)) ?_) | refine Below.drew ?_ | refine Below.setCell ?_ (by first | omega | (simp; done) | (simp; omega)) _ | refine Below.alloc ?_ (by first | omega | (simp; done) | (simp; omega)) _)
theorem isOp_0 (w : World) :
    Calls Tryz.prog 144 #[.int .i64 0] w fun e w' => e = .returned (.bool false) /\ Below w.heap.size w w' := by
  have heq := same_names
  go_enter Tryz.func144, Tryz.ntmps144
  go_wp2_with (go_at_call 170; refine (names_any _).mono ?_; rintro e w1 ⟨rfl, g1⟩; obtain ⟨c1, f1⟩ := bcell g1; have s1 := g1.size; try simp at s1)
  go_region_with (go_at_call 171; refine (without_0 _).mono ?_; rintro e w2 ⟨rfl, g2⟩; obtain ⟨c2, f2⟩ := bcell g2; have s2 := g2.size; try simp at s2; have q2 : w1.heap.size < w2.heap.size := by omega)
  all_goals
    go_wp2
    go_ret
    refine ⟨rfl, ?_⟩
    repeat (first | exact Below.refl _ _ | (refine via (by assumption) (by first | omega | (simp; done) | (simp; omega)) ?_) | refine Below.drew ?_ | refine Below.setCell ?_ (by first | omega | (simp; done) | (simp; omega)) _ | refine Below.alloc ?_ (by first | omega | (simp; done) | (simp; omega)) _)
theorem isOp_1 (w : World) :
    Calls Tryz.prog 144 #[.int .i64 1] w fun e w' => e = .returned (.bool true) /\ Below w.heap.size w w' := by
  have heq := other_names1
  go_enter Tryz.func144, Tryz.ntmps144
  go_wp2_with (go_at_call 170; refine (names_any _).mono ?_; rintro e w1 ⟨rfl, g1⟩; obtain ⟨c1, f1⟩ := bcell g1; have s1 := g1.size; try simp at s1)
  go_region_with (go_at_call 171; refine (without_1 _).mono ?_; rintro e w2 ⟨rfl, g2⟩; obtain ⟨c2, f2⟩ := bcell g2; have s2 := g2.size; try simp at s2; have q2 : w1.heap.size < w2.heap.size := by omega)
  all_goals
    go_wp2
    go_ret
    refine ⟨rfl, ?_⟩
    repeat (first | exact Below.refl _ _ | (refine via (by assumption) (by first | omega | (simp; done) | (simp; omega)) ?_) | refine Below.drew ?_ | refine Below.setCell ?_ (by first | omega | (simp; done) | (simp; omega)) _ | refine Below.alloc ?_ (by first | omega | (simp; done) | (simp; omega)) _)
theorem isOp_2 (w : World) :
    Calls Tryz.prog 144 #[.int .i64 2] w fun e w' => e = .returned (.bool true) /\ Below w.heap.size w w' := by
  have heq := other_names2
  go_enter Tryz.func144, Tryz.ntmps144
  go_wp2_with (go_at_call 170; refine (names_any _).mono ?_; rintro e w1 ⟨rfl, g1⟩; obtain ⟨c1, f1⟩ := bcell g1; have s1 := g1.size; try simp at s1)
  go_region_with (go_at_call 171; refine (without_2 _).mono ?_; rintro e w2 ⟨rfl, g2⟩; obtain ⟨c2, f2⟩ := bcell g2; have s2 := g2.size; try simp at s2; have q2 : w1.heap.size < w2.heap.size := by omega)
  all_goals
    go_wp2
    go_ret
    refine ⟨rfl, ?_⟩
    repeat (first | exact Below.refl _ _ | (refine via (by assumption) (by first | omega | (simp; done) | (simp; omega)) ?_) | refine Below.drew ?_ | refine Below.setCell ?_ (by first | omega | (simp; done) | (simp; omega)) _ | refine Below.alloc ?_ (by first | omega | (simp; done) | (simp; omega)) _)
theorem isOp_3 (w : World) :
    Calls Tryz.prog 144 #[.int .i64 3] w fun e w' => e = .returned (.bool true) /\ Below w.heap.size w w' := by
  have heq := other_names3
  go_enter Tryz.func144, Tryz.ntmps144
  go_wp2_with (go_at_call 170; refine (names_any _).mono ?_; rintro e w1 ⟨rfl, g1⟩; obtain ⟨c1, f1⟩ := bcell g1; have s1 := g1.size; try simp at s1)
  go_region_with (go_at_call 171; refine (without_3 _).mono ?_; rintro e w2 ⟨rfl, g2⟩; obtain ⟨c2, f2⟩ := bcell g2; have s2 := g2.size; try simp at s2; have q2 : w1.heap.size < w2.heap.size := by omega)
  all_goals
    go_wp2
    go_ret
    refine ⟨rfl, ?_⟩
    repeat (first | exact Below.refl _ _ | (refine via (by assumption) (by first | omega | (simp; done) | (simp; omega)) ?_) | refine Below.drew ?_ | refine Below.setCell ?_ (by first | omega | (simp; done) | (simp; omega)) _ | refine Below.alloc ?_ (by first | omega | (simp; done) | (simp; omega)) _)
theorem isOp_4 (w : World) :
    Calls Tryz.prog 144 #[.int .i64 4] w fun e w' => e = .returned (.bool true) /\ Below w.heap.size w w' := by
  have heq := other_names4
  go_enter Tryz.func144, Tryz.ntmps144
  go_wp2_with (go_at_call 170; refine (names_any _).mono ?_; rintro e w1 ⟨rfl, g1⟩; obtain ⟨c1, f1⟩ := bcell g1; have s1 := g1.size; try simp at s1)
  go_region_with (go_at_call 171; refine (without_4 _).mono ?_; rintro e w2 ⟨rfl, g2⟩; obtain ⟨c2, f2⟩ := bcell g2; have s2 := g2.size; try simp at s2; have q2 : w1.heap.size < w2.heap.size := by omega)
  all_goals
    go_wp2
    go_ret
    refine ⟨rfl, ?_⟩
    repeat (first | exact Below.refl _ _ | (refine via (by assumption) (by first | omega | (simp; done) | (simp; omega)) ?_) | refine Below.drew ?_ | refine Below.setCell ?_ (by first | omega | (simp; done) | (simp; omega)) _ | refine Below.alloc ?_ (by first | omega | (simp; done) | (simp; omega)) _)
theorem isOp_5 (w : World) :
    Calls Tryz.prog 144 #[.int .i64 5] w fun e w' => e = .returned (.bool true) /\ Below w.heap.size w w' := by
  have heq := other_names5
  go_enter Tryz.func144, Tryz.ntmps144
  go_wp2_with (go_at_call 170; refine (names_any _).mono ?_; rintro e w1 ⟨rfl, g1⟩; obtain ⟨c1, f1⟩ := bcell g1; have s1 := g1.size; try simp at s1)
  go_region_with (go_at_call 171; refine (without_5 _).mono ?_; rintro e w2 ⟨rfl, g2⟩; obtain ⟨c2, f2⟩ := bcell g2; have s2 := g2.size; try simp at s2; have q2 : w1.heap.size < w2.heap.size := by omega)
  all_goals
    go_wp2
    go_ret
    refine ⟨rfl, ?_⟩
    repeat (first | exact Below.refl _ _ | (refine via (by assumption) (by first | omega | (simp; done) | (simp; omega)) ?_) | refine Below.drew ?_ | refine Below.setCell ?_ (by first | omega | (simp; done) | (simp; omega)) _ | refine Below.alloc ?_ (by first | omega | (simp; done) | (simp; omega)) _)
theorem isOp_6 (w : World) :
    Calls Tryz.prog 144 #[.int .i64 6] w fun e w' => e = .returned (.bool true) /\ Below w.heap.size w w' := by
  have heq := other_names6
  go_enter Tryz.func144, Tryz.ntmps144
  go_wp2_with (go_at_call 170; refine (names_any _).mono ?_; rintro e w1 ⟨rfl, g1⟩; obtain ⟨c1, f1⟩ := bcell g1; have s1 := g1.size; try simp at s1)
  go_region_with (go_at_call 171; refine (without_6 _).mono ?_; rintro e w2 ⟨rfl, g2⟩; obtain ⟨c2, f2⟩ := bcell g2; have s2 := g2.size; try simp at s2; have q2 : w1.heap.size < w2.heap.size := by omega)
  all_goals
    go_wp2
    go_ret
    refine ⟨rfl, ?_⟩
    repeat (first | exact Below.refl _ _ | (refine via (by assumption) (by first | omega | (simp; done) | (simp; omega)) ?_) | refine Below.drew ?_ | refine Below.setCell ?_ (by first | omega | (simp; done) | (simp; omega)) _ | refine Below.alloc ?_ (by first | omega | (simp; done) | (simp; omega)) _)
theorem isOp_7 (w : World) :
    Calls Tryz.prog 144 #[.int .i64 7] w fun e w' => e = .returned (.bool true) /\ Below w.heap.size w w' := by
  have heq := other_names7
  go_enter Tryz.func144, Tryz.ntmps144
  go_wp2_with (go_at_call 170; refine (names_any _).mono ?_; rintro e w1 ⟨rfl, g1⟩; obtain ⟨c1, f1⟩ := bcell g1; have s1 := g1.size; try simp at s1)
  go_region_with (go_at_call 171; refine (without_7 _).mono ?_; rintro e w2 ⟨rfl, g2⟩; obtain ⟨c2, f2⟩ := bcell g2; have s2 := g2.size; try simp at s2; have q2 : w1.heap.size < w2.heap.size := by omega)
  all_goals
    go_wp2
    go_ret
    refine ⟨rfl, ?_⟩
    repeat (first | exact Below.refl _ _ | (refine via (by assumption) (by first | omega | (simp; done) | (simp; omega)) ?_) | refine Below.drew ?_ | refine Below.setCell ?_ (by first | omega | (simp; done) | (simp; omega)) _ | refine Below.alloc ?_ (by first | omega | (simp; done) | (simp; omega)) _)
theorem isOp_8 (w : World) :
    Calls Tryz.prog 144 #[.int .i64 8] w fun e w' => e = .returned (.bool true) /\ Below w.heap.size w w' := by
  have heq := other_names8
  go_enter Tryz.func144, Tryz.ntmps144
  go_wp2_with (go_at_call 170; refine (names_any _).mono ?_; rintro e w1 ⟨rfl, g1⟩; obtain ⟨c1, f1⟩ := bcell g1; have s1 := g1.size; try simp at s1)
  go_region_with (go_at_call 171; refine (without_8 _).mono ?_; rintro e w2 ⟨rfl, g2⟩; obtain ⟨c2, f2⟩ := bcell g2; have s2 := g2.size; try simp at s2; have q2 : w1.heap.size < w2.heap.size := by omega)
  all_goals
    go_wp2
    go_ret
    refine ⟨rfl, ?_⟩
    repeat (first | exact Below.refl _ _ | (refine via (by assumption) (by first | omega | (simp; done) | (simp; omega)) ?_) | refine Below.drew ?_ | refine Below.setCell ?_ (by first | omega | (simp; done) | (simp; omega)) _ | refine Below.alloc ?_ (by first | omega | (simp; done) | (simp; omega)) _)
theorem isOp_9 (w : World) :
    Calls Tryz.prog 144 #[.int .i64 9] w fun e w' => e = .returned (.bool true) /\ Below w.heap.size w w' := by
  have heq := other_names9
  go_enter Tryz.func144, Tryz.ntmps144
  go_wp2_with (go_at_call 170; refine (names_any _).mono ?_; rintro e w1 ⟨rfl, g1⟩; obtain ⟨c1, f1⟩ := bcell g1; have s1 := g1.size; try simp at s1)
  go_region_with (go_at_call 171; refine (without_9 _).mono ?_; rintro e w2 ⟨rfl, g2⟩; obtain ⟨c2, f2⟩ := bcell g2; have s2 := g2.size; try simp at s2; have q2 : w1.heap.size < w2.heap.size := by omega)
  all_goals
    go_wp2
    go_ret
    refine ⟨rfl, ?_⟩
    repeat (first | exact Below.refl _ _ | (refine via (by assumption) (by first | omega | (simp; done) | (simp; omega)) ?_) | refine Below.drew ?_ | refine Below.setCell ?_ (by first | omega | (simp; done) | (simp; omega)) _ | refine Below.alloc ?_ (by first | omega | (simp; done) | (simp; omega)) _)
theorem isOp_10 (w : World) :
    Calls Tryz.prog 144 #[.int .i64 10] w fun e w' => e = .returned (.bool true) /\ Below w.heap.size w w' := by
  have heq := other_names10
  go_enter Tryz.func144, Tryz.ntmps144
  go_wp2_with (go_at_call 170; refine (names_any _).mono ?_; rintro e w1 ⟨rfl, g1⟩; obtain ⟨c1, f1⟩ := bcell g1; have s1 := g1.size; try simp at s1)
  go_region_with (go_at_call 171; refine (without_10 _).mono ?_; rintro e w2 ⟨rfl, g2⟩; obtain ⟨c2, f2⟩ := bcell g2; have s2 := g2.size; try simp at s2; have q2 : w1.heap.size < w2.heap.size := by omega)
  all_goals
    go_wp2
    go_ret
    refine ⟨rfl, ?_⟩
    repeat (first | exact Below.refl _ _ | (refine via (by assumption) (by first | omega | (simp; done) | (simp; omega)) ?_) | refine Below.drew ?_ | refine Below.setCell ?_ (by first | omega | (simp; done) | (simp; omega)) _ | refine Below.alloc ?_ (by first | omega | (simp; done) | (simp; omega)) _)
theorem isOp_any (op : Int) (w : World) :
    Calls Tryz.prog 144 #[.int .i64 op] w fun e w' => e = .returned (.bool (inB op 1 10)) /\ Below w.heap.size w w' := by
  rcases op_ways op with h | rfl | rfl | rfl | rfl | rfl | rfl | rfl | rfl | rfl | rfl | rfl
  . have e : inB op 1 10 = false := by simp only [inB, decide_eq_false_iff_not] at h ⊢; omega
    rw [e]; exact isOp_out op h w
  . exact isOp_0 w
  . exact isOp_1 w
  . exact isOp_2 w
  . exact isOp_3 w
  . exact isOp_4 w
  . exact isOp_5 w
  . exact isOp_6 w
  . exact isOp_7 w
  . exact isOp_8 w
  . exact isOp_9 w
  . exact isOp_10 w
end Go.Proofs.YtaefjifcnoiplaaGreat.CmdOk

/-
  What the program's CmdOk and the specification's answer: the same. No condition but the length that every text has.
-/
namespace Go.Proofs.YtaefjifcnoiplaaGreat.CmdOk
open Go.ChangeShapes Go.WideShapes Go.ChangeAt Go.RowKit Go.Joins Base Cmd
set_option linter.unusedVariables false
theorem own : ownKnob Tryz.prog.godebug = none := by kernel_rfl
theorem laidOut : laidOutB Tryz.prog = true := by kernel_rfl
def restB (who seq op a b c : Int) (k t : ByteArray) : Bool :=
  inB who 0 3 && inB seq 1 100000 && inB op 1 10 && inB a 0 100000 && inB b 0 100000 && inB c 0 100000 && textB k && textB t
def nobodyB (seq op a b c : Int) (k t : ByteArray) : Bool :=
  seq == 0 && op == 0 && a == 0 && b == 0 && c == 0 && k.toList == [] && t.toList == []
def okB (who seq op a b c : Int) (k t : ByteArray) : Bool := if who = -1 then nobodyB seq op a b c k t else restB who seq op a b c k t
theorem eqC (who seq op a b c : Int) (k t : ByteArray) (w : World) :
    (Op.equalIn 10000 87 (.agg #[.int .i64 who, .int .i64 seq, .int .i64 op, .int .i64 a, .int .i64 b, .int .i64 c, .string k, .string t]) (.agg #[.int .i64 (-1), .int .i64 0, .int .i64 0, .int .i64 0, .int .i64 0, .int .i64 0, .string ⟨#[]⟩, .string ⟨#[]⟩])).run Tryz.prog w = .ok (who == -1 && nobodyB seq op a b c k t) w := by
  have u3 := Tryz.underlying3
  have us := Tryz.underlying9
  have hS : Tryz.prog.underlying 87 = some (.struct (Tryz.prog.fieldsOf 87)) := by kernel_rfl
  rw [show (10000 : Nat) = 9999 + 1 from rfl, run_equalIn_agg w 9999 87 _ _ hS (by kernel_rfl)]
  simp only [Program.fieldsOf, Tryz.underlying87]
  go_simp
  simp only [nobodyB]
  repeat' split
  all_goals simp_all
theorem eight (p0 p1 p2 p3 p4 p5 p6 p7 : Bool) : p0 = false ∨ (p0 = true /\ p1 = false) ∨ (p0 = true /\ p1 = true /\ p2 = false) ∨ (p0 = true /\ p1 = true /\ p2 = true /\ p3 = false) ∨
    (p0 = true /\ p1 = true /\ p2 = true /\ p3 = true /\ p4 = false) ∨ (p0 = true /\ p1 = true /\ p2 = true /\ p3 = true /\ p4 = true /\ p5 = false) ∨
    (p0 = true /\ p1 = true /\ p2 = true /\ p3 = true /\ p4 = true /\ p5 = true /\ p6 = false) ∨ (p0 = true /\ p1 = true /\ p2 = true /\ p3 = true /\ p4 = true /\ p5 = true /\ p6 = true /\ p7 = false) ∨
    (p0 = true /\ p1 = true /\ p2 = true /\ p3 = true /\ p4 = true /\ p5 = true /\ p6 = true /\ p7 = true) := by
  cases p0<;>cases p1<;>cases p2<;>cases p3<;>cases p4<;>cases p5<;>cases p6<;>cases p7<;>simp
theorem spec_nobody (seq op a b c : Int) (k t : ByteArray) (w : World) :
    Calls Tryz.prog 76 #[.agg #[.int .i64 (-1), .int .i64 seq, .int .i64 op, .int .i64 a, .int .i64 b, .int .i64 c, .string k, .string t]] w fun e w' => e = .returned (.bool (nobodyB seq op a b c k t)) /\ Below w.heap.size w w' := by
  have heq := eqC (-1) seq op a b c k t
  go_enter Tryz.func76, Tryz.ntmps76
  go_wp2
  go_ret
  exact ⟨by simp, by repeat (first | exact Below.refl _ _ | (refine via (by assumption) (by first | omega | (simp; done) | (simp; omega)) ?_) | refine Below.drew ?_ | refine Below.setCell ?_ (by first | omega | (simp; done) | (simp; omega)) _ | refine Below.alloc ?_ (by first | omega | (simp; done) | (simp; omega)) _)⟩
set_option maxHeartbeats 1000000 in
theorem spec_rest (who seq op a b c : Int) (k t : ByteArray) (hk : k.size <= 9223372036854775807) (ht : t.size <= 9223372036854775807) (hw : ((who : Int) == -1) = false) (w : World) :
    Calls Tryz.prog 76 #[.agg #[.int .i64 who, .int .i64 seq, .int .i64 op, .int .i64 a, .int .i64 b, .int .i64 c, .string k, .string t]] w fun e w' => e = .returned (.bool (restB who seq op a b c k t)) /\ Below w.heap.size w w' := by
  rcases eight (inB who 0 3) (inB seq 1 100000) (inB op 1 10) (inB a 0 100000) (inB b 0 100000) (inB c 0 100000) (textB k) (textB t) with h0 | ⟨h0, h1⟩ | ⟨h0, h1, h2⟩ | ⟨h0, h1, h2, h3⟩ | ⟨h0, h1, h2, h3, h4⟩ | ⟨h0, h1, h2, h3, h4, h5⟩ | ⟨h0, h1, h2, h3, h4, h5, h6⟩ | ⟨h0, h1, h2, h3, h4, h5, h6, h7⟩ | ⟨h0, h1, h2, h3, h4, h5, h6, h7⟩
  all_goals
    go_enter Tryz.func76, Tryz.ntmps76
    go_wp2_with (first
      | (go_at_call 34; refine (in_any _ _ _ _).mono ?_; rintro e w' ⟨rfl, rfl⟩)
      | (go_at_call_of 135 (Value.string k); refine (specText_any k hk _).mono ?_; rintro e w1 ⟨rfl, g1⟩; obtain ⟨c1, f1⟩ := bcell g1; have s1 := g1.size; try simp at s1; have q1 : w.heap.size < w1.heap.size := by omega)
      | (go_at_call_of 135 (Value.string t); refine (specText_any t ht _).mono ?_; rintro e w1 ⟨rfl, g1⟩; obtain ⟨c1, f1⟩ := bcell g1; have s1 := g1.size; try simp at s1; have q1 : w.heap.size < w1.heap.size := by omega))
    go_ret
    refine ⟨by simp [restB, *], ?_⟩
    repeat (first | exact Below.refl _ _ | (refine via (by assumption) (by first | omega | (simp; done) | (simp; omega)) ?_) | refine Below.drew ?_ | refine Below.setCell ?_ (by first | omega | (simp; done) | (simp; omega)) _ | refine Below.alloc ?_ (by first | omega | (simp; done) | (simp; omega)) _)
theorem spec_any (who seq op a b c : Int) (k t : ByteArray) (hk : k.size <= 9223372036854775807) (ht : t.size <= 9223372036854775807) (w : World) :
    Calls Tryz.prog 76 #[.agg #[.int .i64 who, .int .i64 seq, .int .i64 op, .int .i64 a, .int .i64 b, .int .i64 c, .string k, .string t]] w fun e w' => e = .returned (.bool (okB who seq op a b c k t)) /\ Below w.heap.size w w' := by
  unfold okB
  by_cases h : who = -1
  . subst h; rw [if_pos rfl]; exact spec_nobody seq op a b c k t w
  . rw [if_neg h]; exact spec_rest who seq op a b c k t hk ht (by simpa using h) w
theorem impl_nobody (seq op a b c : Int) (k t : ByteArray) (w : World) :
    Calls Tryz.prog 96 #[.agg #[.int .i64 (-1), .int .i64 seq, .int .i64 op, .int .i64 a, .int .i64 b, .int .i64 c, .string k, .string t]] w fun e w' => e = .returned (.bool (nobodyB seq op a b c k t)) /\ Below w.heap.size w w' := by
  have heq := eqC (-1) seq op a b c k t
  go_enter Tryz.func96, Tryz.ntmps96
  go_wp2
  go_ret
  exact ⟨by simp, by repeat (first | exact Below.refl _ _ | (refine via (by assumption) (by first | omega | (simp; done) | (simp; omega)) ?_) | refine Below.drew ?_ | refine Below.setCell ?_ (by first | omega | (simp; done) | (simp; omega)) _ | refine Below.alloc ?_ (by first | omega | (simp; done) | (simp; omega)) _)⟩
set_option maxHeartbeats 1000000 in
theorem impl_rest (who seq op a b c : Int) (k t : ByteArray) (hk : k.size <= 9223372036854775807) (ht : t.size <= 9223372036854775807) (hw : ((who : Int) == -1) = false) (w : World) :
    Calls Tryz.prog 96 #[.agg #[.int .i64 who, .int .i64 seq, .int .i64 op, .int .i64 a, .int .i64 b, .int .i64 c, .string k, .string t]] w fun e w' => e = .returned (.bool (restB who seq op a b c k t)) /\ Below w.heap.size w w' := by
  rcases eight (inB who 0 3) (inB seq 1 100000) (inB op 1 10) (inB a 0 100000) (inB b 0 100000) (inB c 0 100000) (textB k) (textB t) with h0 | ⟨h0, h1⟩ | ⟨h0, h1, h2⟩ | ⟨h0, h1, h2, h3⟩ | ⟨h0, h1, h2, h3, h4⟩ | ⟨h0, h1, h2, h3, h4, h5⟩ | ⟨h0, h1, h2, h3, h4, h5, h6⟩ | ⟨h0, h1, h2, h3, h4, h5, h6, h7⟩ | ⟨h0, h1, h2, h3, h4, h5, h6, h7⟩
  all_goals
    go_enter Tryz.func96, Tryz.ntmps96
    go_wp2_with (first
      | (go_at_call 48; refine (within_any _ _ _ _).mono ?_; rintro e w' ⟨rfl, rfl⟩)
      | (go_at_call 144; refine (isOp_any _ _).mono ?_; rintro e w1 ⟨rfl, g1⟩; obtain ⟨c1, f1⟩ := bcell g1; have s1 := g1.size; try simp at s1; have q1 : w.heap.size < w1.heap.size := by omega)
      | (go_at_call_of 145 (Value.string k); refine (implText_any k hk _).mono ?_; rintro e w1 ⟨rfl, g1⟩; obtain ⟨c1, f1⟩ := bcell g1; have s1 := g1.size; try simp at s1; have q1 : w.heap.size < w1.heap.size := by omega)
      | (go_at_call_of 145 (Value.string t); refine (implText_any t ht _).mono ?_; rintro e w1 ⟨rfl, g1⟩; obtain ⟨c1, f1⟩ := bcell g1; have s1 := g1.size; try simp at s1; have q1 : w.heap.size < w1.heap.size := by omega))
    go_ret
    refine ⟨by simp [restB, *], ?_⟩
    repeat (first | exact Below.refl _ _ | (refine via (by assumption) (by first | omega | (simp; done) | (simp; omega)) ?_) | refine Below.drew ?_ | refine Below.setCell ?_ (by first | omega | (simp; done) | (simp; omega)) _ | refine Below.alloc ?_ (by first | omega | (simp; done) | (simp; omega)) _)
theorem impl_any (who seq op a b c : Int) (k t : ByteArray) (hk : k.size <= 9223372036854775807) (ht : t.size <= 9223372036854775807) (w : World) :
    Calls Tryz.prog 96 #[.agg #[.int .i64 who, .int .i64 seq, .int .i64 op, .int .i64 a, .int .i64 b, .int .i64 c, .string k, .string t]] w fun e w' => e = .returned (.bool (okB who seq op a b c k t)) /\ Below w.heap.size w w' := by
  unfold okB
  by_cases h : who = -1
  . subst h; rw [if_pos rfl]; exact impl_nobody seq op a b c k t w
  . rw [if_neg h]; exact impl_rest who seq op a b c k t hk ht (by simpa using h) w
end Go.Proofs.YtaefjifcnoiplaaGreat.CmdOk

/-
  Numbers and texts as bytes, as lists alone: how a number is written, how it is read, and that the one is the other's way back. No condition.
-/
namespace Go.Proofs.YtaefjifcnoiplaaGreat.Gen
set_option linter.unusedVariables false
def numB (n : Nat) : List UInt8 := if h : n < 128 then [UInt8.ofNat n] else UInt8.ofNat (n % 128 + 128) :: numB (n / 128)
termination_by n
decreasing_by omega
theorem numB_small {n : Nat} (h : n < 128) : numB n = [UInt8.ofNat n] := by rw [numB]; simp [h]
theorem numB_big {n : Nat} (h : ¬ n < 128) : numB n = UInt8.ofNat (n % 128 + 128) :: numB (n / 128) := by rw [numB]; simp [h]
theorem numB_le1 {n : Nat} (h : n < 128) : (numB n).length <= 1 := by rw [numB_small h]; simp
theorem numB_step {n k : Nat} (h : (numB (n / 128)).length <= k) (hk : 0 < k) : (numB n).length <= k + 1 := by
  by_cases q : n < 128
  . have := numB_le1 q; omega
  . rw [numB_big q]; simp; omega
theorem numB_le {n : Nat} (h : n < 34359738368) : (numB n).length <= 5 :=
  numB_step (numB_step (numB_step (numB_step (numB_le1 (by omega)) (by omega)) (by omega)) (by omega)) (by omega)
def numI (n : Int) : List UInt8 := if 0 <= n /\ n <= 2147483647 then numB n.toNat else []
theorem numI_nat {n : Nat} (h : n <= 2147483647) : numI (n : Int) = numB n := by unfold numI; rw [if_pos (by omega)]; simp
theorem numI_le (n : Int) : (numI n).length <= 5 := by
  unfold numI
  split
  . exact numB_le (by omega)
  . simp
def getD : Nat -> Nat -> Nat -> List UInt8 -> Option (Nat × Nat)
  | 0, _, _, _ => none
  | _ + 1, _, _, [] => none
  | f + 1, k, acc, d :: r =>
    if d.toNat < 128 then (if (0 < k /\ d.toNat = 0) ∨ 2147483647 < acc + d.toNat % 128 * 128 ^ k then none else some (acc + d.toNat % 128 * 128 ^ k, k + 1))
    else getD f (k + 1) (acc + d.toNat % 128 * 128 ^ k) r
end Go.Proofs.YtaefjifcnoiplaaGreat.Gen

/-
  Numbers within limits, as the program and as the specification tell them. No condition.
-/
namespace Go.Proofs.YtaefjifcnoiplaaGreat.Gen
open Go.ChangeShapes Go.WideShapes Go.ChangeAt Go.RowKit Go.Joins Go.Deep Base
set_option linter.unusedVariables false
set_option linter.unusedSimpArgs false
def inB (x lo hi : Int) : Bool := decide (lo <= x /\ x <= hi)
theorem within_any (x lo hi : Int) (w : World) :
    Calls Tryz.prog 48 #[.int .i64 x, .int .i64 lo, .int .i64 hi] w fun e w' => e = .returned (.bool (inB x lo hi)) /\ w' = w := by
  by_cases h1 : lo <= x
  . by_cases h2 : x <= hi
    . have e : Hid (inB x lo hi = true) := by show _ = _; simp [inB, h1, h2]
      go_enter Tryz.func48, Tryz.ntmps48
      go_wp2
      go_ret
      exact ⟨by rw [e.out]; rfl, rfl⟩
    . have e : Hid (inB x lo hi = false) := by show _ = _; simp [inB, h2]
      have h2' : decide (x <= hi) = false := decide_eq_false h2
      go_enter Tryz.func48, Tryz.ntmps48
      go_wp2
      go_ret
      exact ⟨by rw [e.out]; first | rfl | (rw [← h2']; rfl), rfl⟩
  . have e : Hid (inB x lo hi = false) := by show _ = _; simp [inB, h1]
    go_enter Tryz.func48, Tryz.ntmps48
    go_wp2
    go_ret
    exact ⟨by rw [e.out]; rfl, rfl⟩
theorem in_any (x lo hi : Int) (w : World) :
    Calls Tryz.prog 34 #[.int .i64 x, .int .i64 lo, .int .i64 hi] w fun e w' => e = .returned (.bool (inB x lo hi)) /\ w' = w := by
  by_cases h1 : lo <= x
  . by_cases h2 : x <= hi
    . have e : Hid (inB x lo hi = true) := by show _ = _; simp [inB, h1, h2]
      go_enter Tryz.func34, Tryz.ntmps34
      go_wp2
      go_ret
      exact ⟨by rw [e.out]; rfl, rfl⟩
    . have e : Hid (inB x lo hi = false) := by show _ = _; simp [inB, h2]
      have h2' : decide (x <= hi) = false := decide_eq_false h2
      go_enter Tryz.func34, Tryz.ntmps34
      go_wp2
      go_ret
      exact ⟨by rw [e.out]; first | rfl | (rw [← h2']; rfl), rfl⟩
  . have e : Hid (inB x lo hi = false) := by show _ = _; simp [inB, h1]
    go_enter Tryz.func34, Tryz.ntmps34
    go_wp2
    go_ret
    exact ⟨by rw [e.out]; rfl, rfl⟩
end Go.Proofs.YtaefjifcnoiplaaGreat.Gen

/-
  The specification's PutNum: the number's bytes, in memory of their own. No condition.
-/
namespace Go.Proofs.YtaefjifcnoiplaaGreat.Gen
open Go.ChangeShapes Go.WideShapes Go.ChangeAt Go.RowKit Go.Joins Go.Deep Base
set_option linter.unusedVariables false
theorem append_b (B : Nat) (a : Option Addr) (c : Nat) (xs : List UInt8) (x : UInt8) (z : Int) (hz : (x.toNat : Int) = z) (W : World) (hB : B <= W.heap.size) (hv : W.ownsRow B 5 1 (.slice a xs.length c) xs.length (flat xs)) (hlen : xs.length <= 600000000) :
    ∃ a' c' W', (Builtin.append_ #[37, 37] 37 #[.slice a xs.length c, .slice (some ⟨W.heap.size, 0, none⟩) 1 1]).run Tryz.prog (W.alloc (.cells #[.int .u8 z] 5)) = .ok (.slice a' (xs.length + 1) c') W' /\ W'.ownsRow B 5 1 (.slice a' (xs ++ [x]).length c') (xs ++ [x]).length (flat (xs ++ [x])) /\
      (W.alloc (.cells #[.int .u8 z] 5)).grownBy W' (Value.slice a xs.length c).ownBlock /\ ((Value.slice a' (xs.length + 1) c').ownBlock = (Value.slice a xs.length c).ownBlock ∨ (Value.slice a' (xs.length + 1) c').ownBlock = some (W.heap.size + 1)) := by
  subst hz
  obtain ⟨v', w3, hr, hown3, hgrow, hat⟩ := append_els8 B (.slice a xs.length c) xs [x] (some ⟨W.heap.size, 0, none⟩) 1 (W.alloc (.cells #[.int .u8 (x.toNat : Int)] 5)) (by simp; omega) (owns_alloc hv _) (one_b W x 5) (by simp; omega)
  obtain ⟨a', c', rfl, _⟩ := owns_form hown3
  refine ⟨a', c', w3, hr, ?_, hgrow, by simpa using hat⟩
  have e : (xs ++ [x]).length = xs.length + [x].length := by simp
  rw [e]
  exact hown3
theorem grown_below {B : Nat} {w W W' : World} {a : Option Addr} {n c k : Nat} {xs : List Value} {t : TypeId} (h : Below B w W) (hO : W.ownsRow B t k (.slice a n c) n xs) (o : Obj) (hB : B <= W.heap.size) (g : (W.alloc o).grownBy W' (Value.slice a n c).ownBlock) : Below B w W' :=
  (h.alloc hB o).grown g (by simp; omega) (fun j e => Nat.le_of_not_lt fun q => owns_far hO q e.symm)
set_option maxRecDepth 100000 in
set_option maxHeartbeats 1000000 in
theorem specPutNum_any (n : Int) (w : World) :
    Calls Tryz.prog 84 #[.int .i64 n] w fun e w' => ∃ a c, e = .returned (.slice a (numI n).length c) /\ Below w.heap.size w w' /\ w'.ownsRow w.heap.size 5 1 (.slice a (numI n).length c) (numI n).length (flat (numI n)) := by
  have own0 : Hid ((w.alloc (.cells #[] 5)).ownsRow w.heap.size 5 1 (.slice (some ⟨w.heap.size, 0, none⟩) 0 0) 0 []) := by
    refine ⟨by simp, .inr ⟨w.heap.size, 0, #[], rfl, Nat.le_refl _, Blk.new w 5 #[], by omega, by simp [maxLen], rfl, rfl⟩⟩
  by_cases hn : 0 <= n /\ n <= 2147483647
  . obtain ⟨m0, rfl⟩ : ∃ m : Nat, n = (m : Int) := ⟨n.toNat, by omega⟩
    have hm0 : m0 <= 2147483647 := by omega
    rw [numI_nat hm0]
    have hin : inB (m0 : Int) 0 2147483647 = true := by simp [inB]; omega
    have hl0 := hidP (numB_le (n := m0) (by omega))
    clear hn
    go_enter Tryz.func84, Tryz.ntmps84
    go_wp2_with fail
    refine (in_any _ _ _ _).mono ?_
    rintro e w1 ⟨rfl, rfl⟩
    have B1 := alloc0 (Below.refl _ w) (.cells #[] 5)
    rw [hin]
    go_wp2
    go_loopw [0, 3] (fun x v W => ∃ (m : Nat) (xs : List UInt8) (a : Option Addr) (c : Nat), x = .int .i64 (m : Int) /\ v = .slice a xs.length c /\ m <= 2147483647 /\ Hid (xs ++ numB m = numB m0) /\ Hid (W.ownsRow w.heap.size 5 1 (.slice a xs.length c) xs.length (flat xs)) /\ Below w.heap.size w W) (fun x _ _ => (intOf x).toNat)
    case atStart => exact ⟨m0, [], _, _, rfl, rfl, hm0, rfl, own0, B1⟩
    case round =>
      obtain ⟨m, xs, a, c, rfl, rfl, hm, hx, hO, hbl⟩ := hrel
      have hxl : xs.length <= 5 := by have h1 := congrArg List.length hx.out; have h2 := hl0.out; rw [List.length_append] at h1; omega
      by_cases hlt : m < 128
      . obtain ⟨a', c', W', hr, hO', hg, _⟩ := append_b w.heap.size a c xs (UInt8.ofNat m) (m : Int) (by rw [UInt8.toNat_ofNat']; omega) wr hbl.size hO.out (by omega)
        have HO := hidP hO'
        have HB := hidP (grown_below hbl hO.out _ hbl.size hg)
        have he : Hid (xs ++ [UInt8.ofNat m] = numB m0) := by show _ = _; rw [← hx.out, numB_small hlt]
        clear hO' hg hO
        go_wp2_with (at_builtin; refine wpList_append_is rfl _ _ _ rfl _ _ _ rfl rfl hr ?_)
        go_ret
        have hl : (numB m0).length = xs.length + 1 := by rw [← he.out]; simp
        refine ⟨a', c', by rw [hl]; rfl, HB.out, ?_⟩
        have := HO.out
        rwa [he.out] at this
      . have e8 : ((UInt8.ofNat (m % 128 + 128)).toNat : Int) = (m : Int) % 128 + 128 := by rw [UInt8.toNat_ofNat']; omega
        obtain ⟨a', c', W', hr, hO', hg, _⟩ := append_b w.heap.size a c xs (UInt8.ofNat (m % 128 + 128)) ((m : Int) % 128 + 128) e8 wr hbl.size hO.out (by omega)
        have HO := hidP hO'
        have HB := hidP (grown_below hbl hO.out _ hbl.size hg)
        have he : Hid (xs ++ [UInt8.ofNat (m % 128 + 128)] ++ numB (m / 128) = numB m0) := by show _ = _; rw [← hx.out, numB_big hlt]; simp
        clear hO' hg hO e8
        go_wp2_with (at_builtin; refine wpList_append_is rfl _ _ _ rfl _ _ _ rfl rfl hr ?_)
        refine ⟨⟨m / 128, xs ++ [UInt8.ofNat (m % 128 + 128)], a', c', ?_, by simp, by omega, he, HO, HB.out⟩, ?_⟩
        . show Value.int .i64 _ = Value.int .i64 _
          congr 1
        . simp [intOf]; omega
  . have hin : inB n 0 2147483647 = false := by simp [inB]; omega
    have hN : Hid (numI n = []) := by show _ = _; unfold numI; rw [if_neg hn]
    clear hn
    go_enter Tryz.func84, Tryz.ntmps84
    go_wp2_with fail
    refine (in_any _ _ _ _).mono ?_
    rintro e w1 ⟨rfl, rfl⟩
    have B1 := alloc0 (Below.refl _ w) (.cells #[] 5)
    rw [hin]
    go_wp2
    go_ret
    refine ⟨_, _, by rw [hN.out]; rfl, B1, ?_⟩
    rw [hN.out]
    exact own0.out
end Go.Proofs.YtaefjifcnoiplaaGreat.Gen

/-
  Lists of entries: how they lie, what the laws' to, sz, eq, mark and held functions of them do; the argument opened. No condition but that there are at most 1048576, and the length that every text has.
-/
namespace Go.Proofs.YtaefjifcnoiplaaGreat.Gen
open Go.ChangeShapes Go.WideShapes Go.ChangeAt Go.RowKit Go.Joins Go.Deep Base
set_option linter.unusedVariables false
structure En where
  term : Int
  who : Int
  seq : Int
  op : Int
  a : Int
  b : Int
  c : Int
  key : ByteArray
  text : ByteArray
instance : Inhabited En := ⟨⟨0, 0, 0, 0, 0, 0, 0, ⟨#[]⟩, ⟨#[]⟩⟩⟩
instance : Cel En where
  k := 9
  cs x := [.int .i64 x.term, .int .i64 x.who, .int .i64 x.seq, .int .i64 x.op, .int .i64 x.a, .int .i64 x.b, .int .i64 x.c, .string x.key, .string x.text]
  len _ := rfl
  one x u hu := by simp at hu; rcases hu with rfl | rfl | rfl | rfl | rfl | rfl | rfl | rfl | rfl<;>rfl
def En.fit (x : En) : Prop := x.key.size <= 9223372036854775807 /\ x.text.size <= 9223372036854775807
def En.right (x : En) : Prop := I64 x.term /\ I64 x.who /\ I64 x.seq /\ I64 x.op /\ I64 x.a /\ I64 x.b /\ I64 x.c /\ x.fit
theorem En.right.fit {x : En} (h : x.right) : x.fit := h.2.2.2.2.2.2.2
theorem In.getEn {w : World} {b o : Nat} {l : List En} (h : In w b o l) (n : Nat) (hi : n < l.length) :
    w.cell? ⟨b, o + n * 9, none⟩ = some (.int .i64 l[n].term) /\ w.cell? ⟨b, o + n * 9 + 1, none⟩ = some (.int .i64 l[n].who) /\ w.cell? ⟨b, o + n * 9 + 2, none⟩ = some (.int .i64 l[n].seq) /\ w.cell? ⟨b, o + n * 9 + 3, none⟩ = some (.int .i64 l[n].op) /\ w.cell? ⟨b, o + n * 9 + 4, none⟩ = some (.int .i64 l[n].a) /\ w.cell? ⟨b, o + n * 9 + 5, none⟩ = some (.int .i64 l[n].b) /\ w.cell? ⟨b, o + n * 9 + 6, none⟩ = some (.int .i64 l[n].c) /\ w.cell? ⟨b, o + n * 9 + 7, none⟩ = some (.string l[n].key) /\ w.cell? ⟨b, o + n * 9 + 8, none⟩ = some (.string l[n].text) :=
  ⟨h.cell n hi (f := 0) rfl, h.cell n hi (f := 1) rfl, h.cell n hi (f := 2) rfl, h.cell n hi (f := 3) rfl, h.cell n hi (f := 4) rfl, h.cell n hi (f := 5) rfl, h.cell n hi (f := 6) rfl, h.cell n hi (f := 7) rfl, h.cell n hi (f := 8) rfl⟩
theorem infoEn : (Tryz.prog.info? 89).map (fun i => (i.zero, i.size, i.bytes)) = some (some (.agg #[.int .i64 0, .int .i64 0, .int .i64 0, .int .i64 0, .int .i64 0, .int .i64 0, .int .i64 0, .string ⟨#[]⟩, .string ⟨#[]⟩]), 9, 88) := by kernel_rfl
def szEn (x : En) : Nat := x.key.size + x.text.size
theorem szCmd_at (who seq op a b c : Int) (key text : ByteArray) (hk : key.size <= 9223372036854775807) (ht : text.size <= 9223372036854775807) (left : Int) (h0 : 0 <= left) (h1 : left <= 1048576) (w : World) :
    Calls Tryz.prog 132 #[.agg #[.int .i64 who, .int .i64 seq, .int .i64 op, .int .i64 a, .int .i64 b, .int .i64 c, .string key, .string text], .int .i64 left] w fun e w' => (∃ r : Int, e = .returned (.int .i64 r) /\ (r = -1 ∨ (0 <= r /\ r = left - (key.size : Int) - (text.size : Int)))) /\ Below w.heap.size w w' := by
  by_cases g1 : left - (key.size : Int) < 0
  . go_enter Tryz.func132, Tryz.ntmps132
    go_wp2
    go_ret
    exact ⟨⟨-1, rfl, .inl rfl⟩, by repeat (first | exact Below.refl _ _ | assumption | refine via0 (by assumption) ?_ | refine Below.drew ?_ | refine alloc0 ?_ _)⟩
  . by_cases g2 : left - (key.size : Int) - (text.size : Int) < 0
    . go_enter Tryz.func132, Tryz.ntmps132
      go_wp2
      go_ret
      exact ⟨⟨-1, rfl, .inl rfl⟩, by repeat (first | exact Below.refl _ _ | assumption | refine via0 (by assumption) ?_ | refine Below.drew ?_ | refine alloc0 ?_ _)⟩
    . go_enter Tryz.func132, Tryz.ntmps132
      go_wp2
      go_ret
      exact ⟨⟨_, rfl, .inr ⟨by omega, rfl⟩⟩, by repeat (first | exact Below.refl _ _ | assumption | refine via0 (by assumption) ?_ | refine Below.drew ?_ | refine alloc0 ?_ _)⟩
theorem szEntry_any (term who seq op a b c : Int) (key text : ByteArray) (hk : key.size <= 9223372036854775807) (ht : text.size <= 9223372036854775807) (left : Int) (h0 : 0 <= left) (h1 : left <= 1048576) (w : World) :
    Calls Tryz.prog 71 #[.agg #[.int .i64 term, .int .i64 who, .int .i64 seq, .int .i64 op, .int .i64 a, .int .i64 b, .int .i64 c, .string key, .string text], .int .i64 left] w fun e w' => (∃ r : Int, e = .returned (.int .i64 r) /\ (r = -1 ∨ (0 <= r /\ r = left - (key.size : Int) - (text.size : Int)))) /\ Below w.heap.size w w' := by
  go_enter Tryz.func71, Tryz.ntmps71
  go_wp2_with fail
  refine (szCmd_at _ _ _ _ _ _ _ _ hk ht left h0 h1 _).mono ?_
  rintro e w1 ⟨⟨r, rfl, hr⟩, g1⟩
  rcases hr with rfl | ⟨hr0, hr1⟩
  . go_wp2
    go_ret
    exact ⟨⟨-1, rfl, .inl rfl⟩, by repeat (first | exact Below.refl _ _ | assumption | refine via0 (by assumption) ?_ | refine Below.drew ?_ | refine alloc0 ?_ _)⟩
  . have hp : ¬ r < 0 := by omega
    have HR := hidP hr1
    clear hr1
    go_wp2
    go_ret
    exact ⟨⟨r, rfl, .inr ⟨hr0, HR.out⟩⟩, by repeat (first | exact Below.refl _ _ | assumption | refine via0 (by assumption) ?_ | refine Below.drew ?_ | refine alloc0 ?_ _)⟩
set_option maxRecDepth 100000 in
set_option maxHeartbeats 1000000 in
theorem szEntryS_any (A : Option Addr) (cap : Nat) (l : List En) (hl : l.length <= 9223372036854775807) (hr : ∀ x ∈ l, x.fit) (left : Int) (h0 : 0 <= left) (h1 : left <= 1048576) (w : World) (hA : At w A l) :
    Calls Tryz.prog 27 #[.slice A l.length cap, .int .i64 left] w fun e w' => (∃ r : Int, e = .returned (.int .i64 r) /\ (r < 0 ∨ (0 <= r /\ r = left - (l.length : Int) - (count szEn l : Int)))) /\ Below w.heap.size w w' := by
  have HA := hidP hA
  have Hr := hidP hr
  clear hA hr
  by_cases h : left < (l.length : Int)
  . have g : left - (l.length : Int) < 0 := by omega
    go_enter Tryz.func27, Tryz.ntmps27
    go_wp2
    go_ret
    exact ⟨⟨-1, rfl, .inl (by omega)⟩, Below.refl _ _⟩
  . have g : ¬ left - (l.length : Int) < 0 := by omega
    go_enter Tryz.func27, Tryz.ntmps27
    go_wp2
    go_loopw [1, 5] (fun q i w' => ∃ (n : Nat) (z : Int), i = .int .i64 (n : Int) /\ q = .int .i64 z /\ n <= l.length /\ 0 <= z /\ z <= 1048576 /\ Hid (z = left - (l.length : Int) - (count szEn (l.take n) : Int)) /\ Below w.heap.size w w') (fun _ i _ => l.length - (intOf i).toNat)
    case atStart => exact ⟨0, _, rfl, rfl, by omega, by omega, by omega, by simp [Hid, count], Below.refl _ _⟩
    case round =>
      obtain ⟨n, z, rfl, rfl, hn, hz0, hz1, hz, hbl⟩ := hrel
      by_cases hlt : n < l.length
      . obtain ⟨b, o, rfl, hbs, hIn⟩ : ∃ b o, A = some ⟨b, o, none⟩ /\ b < w.heap.size /\ In w b o l := by
          rcases HA.out with h | h
          . subst h; simp at hlt
          . exact h
        obtain ⟨c0, c1, c2, c3, c4, c5, c6, c7, c8⟩ := (hIn.below hbs hbl).getEn n hlt
        have hms := Hr.out _ (List.getElem_mem hlt)
        have hsn := hidP (count_snoc szEn l n hlt)
        go_wp2_with fail
        refine (szEntry_any _ _ _ _ _ _ _ _ _ hms.1 hms.2 z hz0 hz1 _).mono ?_
        rintro e w1 ⟨⟨r, rfl, hr⟩, g1⟩
        rcases hr with rfl | ⟨hr0, hr1⟩
        . go_wp2
          go_ret
          exact ⟨⟨-1, rfl, .inl (by omega)⟩, via0 g1 hbl⟩
        . have hp : ¬ r < 0 := by omega
          have HR1 := hidP hr1
          clear hr1
          go_wp2
          have hz' := hz.out
          have hsn' := hsn.out
          have hr' := HR1.out
          exact ⟨⟨n + 1, r, by go_num, rfl, by omega, by omega, by omega, by show _ = _; rw [hsn', hr', hz']; simp only [szEn]; omega, via0 g1 hbl⟩, by simp [intOf]; omega⟩
      . have e : l.take n = l := List.take_of_length_le (by omega)
        go_wp2
        go_ret
        have hz' := hz.out
        rw [e] at hz'
        exact ⟨⟨z, rfl, .inr ⟨hz0, hz'⟩⟩, hbl⟩
set_option maxRecDepth 100000 in
set_option maxHeartbeats 1000000 in
theorem toEntry_any (term who seq op a b c : Int) (key text : ByteArray) (w : World) :
    Calls Tryz.prog 88 #[.agg #[.int .i64 term, .int .i64 who, .int .i64 seq, .int .i64 op, .int .i64 a, .int .i64 b, .int .i64 c, .string key, .string text]] w fun e w' => e = .returned (.agg #[.int .i64 term, .int .i64 who, .int .i64 seq, .int .i64 op, .int .i64 a, .int .i64 b, .int .i64 c, .string key, .string text]) /\ Below w.heap.size w w' := by
  go_enter Tryz.func88, Tryz.ntmps88
  go_wp2_with fail
  refine (Cmd.to_any _ _ _ _ _ _ _ _ _).mono ?_
  rintro e w1 ⟨rfl, g1⟩
  have p : Blk w1 (w.heap.size + 1) 89 #[.int .i64 0, .int .i64 0, .int .i64 0, .int .i64 0, .int .i64 0, .int .i64 0, .int .i64 0, .string ⟨#[]⟩, .string ⟨#[]⟩] := by
    have := ((Blk.new (w.alloc (.cells #[.int .i64 term, .int .i64 who, .int .i64 seq, .int .i64 op, .int .i64 a, .int .i64 b, .int .i64 c, .string key, .string text] 121)) 89 #[.int .i64 0, .int .i64 0, .int .i64 0, .int .i64 0, .int .i64 0, .int .i64 0, .int .i64 0, .string ⟨#[]⟩, .string ⟨#[]⟩]).alloc (.cells #[.int .i64 term, .int .i64 0, .int .i64 0, .int .i64 0, .int .i64 0, .int .i64 0, .int .i64 0, .string ⟨#[]⟩, .string ⟨#[]⟩] 89)).below g1 (by simp)
    simpa using this
  have q : Blk w1 (w.heap.size + 1 + 1) 89 #[.int .i64 term, .int .i64 0, .int .i64 0, .int .i64 0, .int .i64 0, .int .i64 0, .int .i64 0, .string ⟨#[]⟩, .string ⟨#[]⟩] := by
    have := (Blk.new ((w.alloc (.cells #[.int .i64 term, .int .i64 who, .int .i64 seq, .int .i64 op, .int .i64 a, .int .i64 b, .int .i64 c, .string key, .string text] 121)).alloc (.cells #[.int .i64 0, .int .i64 0, .int .i64 0, .int .i64 0, .int .i64 0, .int .i64 0, .int .i64 0, .string ⟨#[]⟩, .string ⟨#[]⟩] 89)) 89 #[.int .i64 term, .int .i64 0, .int .i64 0, .int .i64 0, .int .i64 0, .int .i64 0, .int .i64 0, .string ⟨#[]⟩, .string ⟨#[]⟩]).below g1 (by simp)
    simpa using this
  have x0 := p.cell (i := 0) rfl
  have x1 := p.cell (i := 1) rfl
  have x2 := p.cell (i := 2) rfl
  have x3 := p.cell (i := 3) rfl
  have x4 := p.cell (i := 4) rfl
  have x5 := p.cell (i := 5) rfl
  have x6 := p.cell (i := 6) rfl
  have x7 := p.cell (i := 7) rfl
  have x8 := p.cell (i := 8) rfl
  have y0 := q.cell (i := 0) rfl
  have y1 := q.cell (i := 1) rfl
  have y2 := q.cell (i := 2) rfl
  have y3 := q.cell (i := 3) rfl
  have y4 := q.cell (i := 4) rfl
  have y5 := q.cell (i := 5) rfl
  have y6 := q.cell (i := 6) rfl
  have y7 := q.cell (i := 7) rfl
  have y8 := q.cell (i := 8) rfl
  have fp := fun i => p.thaw i
  have fq := fun i => q.thaw i
  have g2 : Below w.heap.size w w1 := via0 g1 (by repeat (first | exact Below.refl _ _ | assumption | refine via0 (by assumption) ?_ | refine Below.drew ?_ | refine alloc0 ?_ _))
  clear g1
  go_wp2
  refine bodyPost_ret (v := .agg #[.int .i64 term, .int .i64 who, .int .i64 seq, .int .i64 op, .int .i64 a, .int .i64 b, .int .i64 c, .string key, .string text]) (by simp [results, Tryz.results88, go_sem, *]) rfl ⟨rfl, ?_⟩
  repeat (first | with_reducible exact g2 | refine bl_set ?_ (by omega) _)
set_option maxRecDepth 100000 in
set_option maxHeartbeats 1000000 in
theorem toEntryS_any (A : Option Addr) (cap : Nat) (l : List En) (hl : l.length <= 1048576) (w : World) (hA : At w A l) :
    Calls Tryz.prog 40 #[.slice A l.length cap] w fun e w' => e = .returned (.slice (some ⟨w.heap.size, 0, none⟩) l.length l.length) /\ Below w.heap.size w w' /\ w.heap.size < w'.heap.size /\ In w' w.heap.size 0 l /\ w'.there w.heap.size 0 (l.length * 9) := by
  have HA := hidP hA
  clear hA
  have hmk := make_els (P := Tryz.prog) Tryz.underlying41 infoEn (by omega) l.length hl
  go_enter Tryz.func40, Tryz.ntmps40
  go_wp2
  go_loopw [4] (fun i w' => ∃ (n : Nat), i = .int .i64 (n : Int) /\ n <= l.length /\ Below w.heap.size w w' /\ w.heap.size < w'.heap.size /\ Hid (In w' w.heap.size 0 (l.take n)) /\ Hid (w'.there w.heap.size 0 (l.length * 9))) (fun i _ => l.length - (intOf i).toNat)
  case atStart => exact ⟨0, rfl, by omega, by repeat (first | exact Below.refl _ _ | assumption | refine via0 (by assumption) ?_ | refine Below.drew ?_ | refine alloc0 ?_ _), by simp, In.nil _ _ _, made_there w _ _ _ _⟩
  case round =>
    obtain ⟨n, rfl, hn, hbl, hsz, hin, hth⟩ := hrel
    by_cases hlt : n < l.length
    . obtain ⟨b, o, rfl, hbs, hIn⟩ : ∃ b o, A = some ⟨b, o, none⟩ /\ b < w.heap.size /\ In w b o l := by
        rcases HA.out with h | h
        . subst h; simp at hlt
        . exact h
      obtain ⟨c0, c1, c2, c3, c4, c5, c6, c7, c8⟩ := (hIn.below hbs hbl).getEn n hlt
      obtain ⟨⟨v0, d0⟩, f0⟩ := there_at (f := 0) hth.out hlt (by omega)
      obtain ⟨⟨v1, d1⟩, f1⟩ := there_at (f := 1) hth.out hlt (by omega)
      obtain ⟨⟨v2, d2⟩, f2⟩ := there_at (f := 2) hth.out hlt (by omega)
      obtain ⟨⟨v3, d3⟩, f3⟩ := there_at (f := 3) hth.out hlt (by omega)
      obtain ⟨⟨v4, d4⟩, f4⟩ := there_at (f := 4) hth.out hlt (by omega)
      obtain ⟨⟨v5, d5⟩, f5⟩ := there_at (f := 5) hth.out hlt (by omega)
      obtain ⟨⟨v6, d6⟩, f6⟩ := there_at (f := 6) hth.out hlt (by omega)
      obtain ⟨⟨v7, d7⟩, f7⟩ := there_at (f := 7) hth.out hlt (by omega)
      obtain ⟨⟨v8, d8⟩, f8⟩ := there_at (f := 8) hth.out hlt (by omega)
      simp only [Nat.zero_add, Nat.add_zero] at d0 f0 d1 f1 d2 f2 d3 f3 d4 f4 d5 f5 d6 f6 d7 f7 d8 f8
      go_wp2_with (go_at_call 88; refine (toEntry_any _ _ _ _ _ _ _ _ _ _).mono ?_; rintro e w1 ⟨rfl, g1⟩; obtain ⟨k1, m1⟩ := bcell g1; have s1 := g1.size)
      have hst := store_el (hin.out.below hsz g1) (there_below hth.out hsz g1) hlt
      refine ⟨⟨n + 1, by go_num, by omega, ?_, by simp; omega, hst.1, hst.2⟩, by simp [intOf]; omega⟩
      exact (((((((((via0 g1 hbl).setCell (Nat.le_refl _) _).setCell (Nat.le_refl _) _).setCell (Nat.le_refl _) _).setCell (Nat.le_refl _) _).setCell (Nat.le_refl _) _).setCell (Nat.le_refl _) _).setCell (Nat.le_refl _) _).setCell (Nat.le_refl _) _).setCell (Nat.le_refl _) _
    . have e : l.take n = l := List.take_of_length_le (by omega)
      go_wp2
      go_ret
      exact ⟨rfl, hbl, hsz, by have := hin.out; rwa [e] at this, hth.out⟩
theorem eqCmd_same (who seq op a b c : Int) (key text : ByteArray) (w : World) :
    Calls Tryz.prog 164 #[.agg #[.int .i64 who, .int .i64 seq, .int .i64 op, .int .i64 a, .int .i64 b, .int .i64 c, .string key, .string text], .agg #[.int .i64 who, .int .i64 seq, .int .i64 op, .int .i64 a, .int .i64 b, .int .i64 c, .string key, .string text]] w fun e w' => e = .returned (.bool true) /\ Below w.heap.size w w' := by
  go_enter Tryz.func164, Tryz.ntmps164
  go_wp2
  go_ret
  exact ⟨rfl, by repeat (first | exact Below.refl _ _ | assumption | refine via0 (by assumption) ?_ | refine Below.drew ?_ | refine alloc0 ?_ _)⟩
theorem eqEntry_same (term who seq op a b c : Int) (key text : ByteArray) (w : World) :
    Calls Tryz.prog 124 #[.agg #[.int .i64 term, .int .i64 who, .int .i64 seq, .int .i64 op, .int .i64 a, .int .i64 b, .int .i64 c, .string key, .string text], .agg #[.int .i64 term, .int .i64 who, .int .i64 seq, .int .i64 op, .int .i64 a, .int .i64 b, .int .i64 c, .string key, .string text]] w fun e w' => e = .returned (.bool true) /\ Below w.heap.size w w' := by
  go_enter Tryz.func124, Tryz.ntmps124
  go_wp2_with (go_at_call 164; refine (eqCmd_same _ _ _ _ _ _ _ _ _).mono ?_; rintro e w1 ⟨rfl, g1⟩)
  go_ret
  exact ⟨rfl, by repeat (first | exact Below.refl _ _ | assumption | refine via0 (by assumption) ?_ | refine Below.drew ?_ | refine alloc0 ?_ _)⟩
set_option maxRecDepth 100000 in
set_option maxHeartbeats 1000000 in
theorem eqEntryS_same (A A' : Option Addr) (cap cap' : Nat) (l : List En) (hl : l.length <= 9223372036854775807) (w : World) (hA : At w A l) (hA' : At w A' l) :
    Calls Tryz.prog 59 #[.slice A l.length cap, .slice A' l.length cap'] w fun e w' => e = .returned (.bool true) /\ Below w.heap.size w w' := by
  have HA := hidP hA
  have HA' := hidP hA'
  clear hA hA'
  go_enter Tryz.func59, Tryz.ntmps59
  go_wp2
  go_loopw [5] (fun i w' => ∃ (n : Nat), i = .int .i64 (n : Int) /\ n <= l.length /\ Below w.heap.size w w') (fun i _ => l.length - (intOf i).toNat)
  case atStart => exact ⟨0, rfl, by omega, Below.refl _ _⟩
  case round =>
    obtain ⟨n, rfl, hn, hbl⟩ := hrel
    by_cases hlt : n < l.length
    . obtain ⟨b, o, rfl, hbs, hin⟩ : ∃ b o, A = some ⟨b, o, none⟩ /\ b < w.heap.size /\ In w b o l := by
        rcases HA.out with h | h
        . subst h; simp at hlt
        . exact h
      obtain ⟨b', o', rfl, hbs', hin'⟩ : ∃ b o, A' = some ⟨b, o, none⟩ /\ b < w.heap.size /\ In w b o l := by
        rcases HA'.out with h | h
        . subst h; simp at hlt
        . exact h
      obtain ⟨c0, c1, c2, c3, c4, c5, c6, c7, c8⟩ := (hin.below hbs hbl).getEn n hlt
      obtain ⟨d0, d1, d2, d3, d4, d5, d6, d7, d8⟩ := (hin'.below hbs' hbl).getEn n hlt
      have hb1 : b < wr.heap.size := Nat.lt_of_lt_of_le hbs hbl.size
      have hb2 : b' < wr.heap.size := Nat.lt_of_lt_of_le hbs' hbl.size
      have hi0 : (0 : Int) <= (n : Int) := by omega
      have hi1 : (n : Int) < (l.length : Int) := by omega
      go_wp2
      go_region_held3 (fun w' => w'.cell? ⟨b, o + n * 9, none⟩ = some (.int .i64 l[n].term) /\ w'.cell? ⟨b, o + n * 9 + 1, none⟩ = some (.int .i64 l[n].who) /\ w'.cell? ⟨b, o + n * 9 + 2, none⟩ = some (.int .i64 l[n].seq) /\ w'.cell? ⟨b, o + n * 9 + 3, none⟩ = some (.int .i64 l[n].op) /\ w'.cell? ⟨b, o + n * 9 + 4, none⟩ = some (.int .i64 l[n].a) /\ w'.cell? ⟨b, o + n * 9 + 5, none⟩ = some (.int .i64 l[n].b) /\ w'.cell? ⟨b, o + n * 9 + 6, none⟩ = some (.int .i64 l[n].c) /\ w'.cell? ⟨b, o + n * 9 + 7, none⟩ = some (.string l[n].key) /\ w'.cell? ⟨b, o + n * 9 + 8, none⟩ = some (.string l[n].text) /\ w'.cell? ⟨b', o' + n * 9, none⟩ = some (.int .i64 l[n].term) /\ w'.cell? ⟨b', o' + n * 9 + 1, none⟩ = some (.int .i64 l[n].who) /\ w'.cell? ⟨b', o' + n * 9 + 2, none⟩ = some (.int .i64 l[n].seq) /\ w'.cell? ⟨b', o' + n * 9 + 3, none⟩ = some (.int .i64 l[n].op) /\ w'.cell? ⟨b', o' + n * 9 + 4, none⟩ = some (.int .i64 l[n].a) /\ w'.cell? ⟨b', o' + n * 9 + 5, none⟩ = some (.int .i64 l[n].b) /\ w'.cell? ⟨b', o' + n * 9 + 6, none⟩ = some (.int .i64 l[n].c) /\ w'.cell? ⟨b', o' + n * 9 + 7, none⟩ = some (.string l[n].key) /\ w'.cell? ⟨b', o' + n * 9 + 8, none⟩ = some (.string l[n].text) /\ wr.heap.size <= w'.heap.size)
        (first | (go_split_ands; refine ⟨?_, ?_, ?_, ?_, ?_, ?_, ?_, ?_, ?_, ?_, ?_, ?_, ?_, ?_, ?_, ?_, ?_, ?_, ?_⟩<;>first | assumption | exact (k1 _ _ hb1).trans (by assumption) | exact (k1 _ _ hb2).trans (by assumption) | exact s1 | (simp; done)) | go_keep)
        (first
          | (go_at_call 124; refine (eqEntry_same _ _ _ _ _ _ _ _ _ _).mono ?_; rintro e w1 ⟨rfl, g1⟩; obtain ⟨k1, m1⟩ := bcell g1; have s1 := g1.size))
      all_goals
        go_wp2
        exact ⟨⟨n + 1, by go_num, by omega, via0 g1 hbl.drew⟩, by simp [intOf]; omega⟩
    . go_wp2
      go_ret
      exact ⟨rfl, hbl⟩
set_option maxRecDepth 100000 in
theorem openEn {H : Type} {enc : TypeId × Value -> H} {w : World} {base n : Nat} {spare : Nat -> Bool} {held : Bool} {a : Addr} {cs : List Value} {y : DataW H × List MemPlace}
    (h1 : w.cells? base a 9 = some cs) (h2 : DataW.trod enc Tryz.prog w base spare held n 121 cs = some y) :
    ∃ x : En, x.right /\ a.spot = none /\ a.block < w.heap.size /\ ∀ j v, (Cel.cs x)[j]? = some v -> w.cell? ⟨a.block, a.off + j, none⟩ = some v := by
  obtain ⟨_, hlen, hc⟩ := World.cells?_some h1
  match cs, hlen with
  | [c0, c1, c2, c3, c4, c5, c6, c7, c8], _ =>
    obtain ⟨y0, y1, m', _, _, t0, t1⟩ := trod_struct2 Tryz.underlying121 h2
    have g0 : DataW.trod enc Tryz.prog w base spare held m' 3 [c0] = some y0 := t0
    have u1 : DataW.trod enc Tryz.prog w base spare held m' 119 [c1, c2, c3, c4, c5, c6, c7, c8] = some y1 := t1
    obtain ⟨m, hf⟩ := fields_at Tryz.underlying119 (by kernel_rfl) u1
    obtain ⟨z1, g1⟩ := hf 0 _ rfl _ rfl
    obtain ⟨z2, g2⟩ := hf 1 _ rfl _ rfl
    obtain ⟨z3, g3⟩ := hf 2 _ rfl _ rfl
    obtain ⟨z4, g4⟩ := hf 3 _ rfl _ rfl
    obtain ⟨z5, g5⟩ := hf 4 _ rfl _ rfl
    obtain ⟨z6, g6⟩ := hf 5 _ rfl _ rfl
    obtain ⟨z7, g7⟩ := hf 6 _ rfl _ rfl
    obtain ⟨z8, g8⟩ := hf 7 _ rfl _ rfl
    obtain ⟨v0, e0, _, w0⟩ := DataW.trod_int Tryz.underlying3 g0
    obtain ⟨v1, e1, _, w1⟩ := DataW.trod_int Tryz.underlying3 g1
    obtain ⟨v2, e2, _, w2⟩ := DataW.trod_int Tryz.underlying3 g2
    obtain ⟨v3, e3, _, w3⟩ := DataW.trod_int Tryz.underlying3 g3
    obtain ⟨v4, e4, _, w4⟩ := DataW.trod_int Tryz.underlying3 g4
    obtain ⟨v5, e5, _, w5⟩ := DataW.trod_int Tryz.underlying3 g5
    obtain ⟨v6, e6, _, w6⟩ := DataW.trod_int Tryz.underlying3 g6
    obtain ⟨v7, e7, _, w7⟩ := DataW.trod_string Tryz.underlying9 g7
    obtain ⟨v8, e8, _, w8⟩ := DataW.trod_string Tryz.underlying9 g8
    simp at e0 e1 e2 e3 e4 e5 e6 e7 e8
    subst e0 e1 e2 e3 e4 e5 e6 e7 e8
    have q0 := hc 0 (by omega)
    have hsp : a.spot = none := by
      cases hs : a.spot with
      | none => rfl
      | some s => exfalso; simp [Addr.add, World.cell?, hs] at q0; split at q0<;>simp at q0
    have hlt : a.block < w.heap.size := by
      rw [show a.add 0 = a from rfl] at q0
      unfold World.cell? at q0
      cases hh : w.heap[a.block]? with
      | none => simp [hh] at q0
      | some ob => exact (Array.getElem?_eq_some_iff.1 hh).1
    refine ⟨⟨v0, v1, v2, v3, v4, v5, v6, v7, v8⟩, ⟨i64_of w0, i64_of w1, i64_of w2, i64_of w3, i64_of w4, i64_of w5, i64_of w6, by simpa [maxLen] using w7, by simpa [maxLen] using w8⟩, hsp, hlt, ?_⟩
    intro j v hv
    have hj : j < 9 := (List.getElem?_eq_some_iff.1 hv).1
    have q := hc j hj
    have e : a.add j = ⟨a.block, a.off + j, none⟩ := by
      obtain ⟨b, o, s⟩ := a
      simp only at hsp
      subst hsp
      exact Addr.add_mid b o j
    rw [e] at q
    rw [q]
    exact hv
theorem cellsEnL : Tryz.prog.cellsOf 121 = 9 := by kernel_rfl
set_option maxRecDepth 100000 in
theorem openEntryS {H : Type} {enc : TypeId × Value -> H} {W : World} {base n : Nat} {spare : Nat -> Bool} {held : Bool} {c : Value} {y : DataW H × List MemPlace}
    (g : DataW.trod enc Tryz.prog W base spare held n 24 [c] = some y) :
    ∃ (A : Option Addr) (cap : Nat) (l : List En), c = .slice A l.length cap /\ l.length <= 9223372036854775807 /\ (∀ x ∈ l, x.right) /\ At W A l := by
  rcases open_slice Tryz.underlying24 g with ⟨e2, _⟩ | ⟨a, len, cap, m, n', D, Pl, e2, _, hl, hm, hmm, _, hx⟩
  . simp at e2
    subst e2
    exact ⟨none, 0, [], rfl, by simp, by simp, .inl rfl⟩
  . simp at e2
    subst e2
    have hle : len <= m := by rw [hmm]; split<;>omega
    rw [cellsEnL] at hx
    obtain ⟨X, hX⟩ := choose_lt (α := En) (p := fun i x => x.right /\ (a.add (i * 9)).spot = none /\ (a.add (i * 9)).block < W.heap.size /\ ∀ j v, (Cel.cs x)[j]? = some v -> W.cell? ⟨(a.add (i * 9)).block, (a.add (i * 9)).off + j, none⟩ = some v)
      (n := len) (fun i hi => by obtain ⟨cs', h1, h2⟩ := hx i (by omega); exact openEn h1 h2)
    obtain ⟨l, rfl, hR, hat⟩ := at_of (α := En) (by decide) (R := En.right) hX
    exact ⟨some a, cap, l, rfl, by simp [maxLen] at hm ⊢; omega, hR, hat⟩
end Go.Proofs.YtaefjifcnoiplaaGreat.Gen

/-
  Lists of entries: what the laws' mark and held functions do. No condition but that there are at most 1048576.
-/
namespace Go.Proofs.YtaefjifcnoiplaaGreat.Gen
open Go.ChangeShapes Go.WideShapes Go.ChangeAt Go.RowKit Go.Joins Go.Deep Base
set_option linter.unusedVariables false
def markEn (z : Int) : En := ⟨z, z + 1, z + 2, z + 3, z + 4, z + 5, z + 6, Items.markZ (z + 7), Items.markZ (z + 8)⟩
def marksEn (n : Nat) (z : Int) : List En := (List.range n).map fun (i : Nat) => markEn (z + (i : Int) * 9)
theorem marksEn_length (n : Nat) (z : Int) : (marksEn n z).length = n := by simp [marksEn]
theorem marksEn_succ (n : Nat) (z : Int) : marksEn (n + 1) z = marksEn n z ++ [markEn (z + (n : Int) * 9)] := by simp [marksEn, List.range_succ]
theorem marksEn_flat (n : Nat) (k z : Int) (hz : z = k + (n : Int) * 9) :
    flat (marksEn n k) ++ [.int .i64 z] ++ [.int .i64 (z + 1)] ++ [.int .i64 (z + 1 + 1)] ++ [.int .i64 (z + 1 + 1 + 1)] ++ [.int .i64 (z + 1 + 1 + 1 + 1)] ++ [.int .i64 (z + 1 + 1 + 1 + 1 + 1)] ++ [.int .i64 (z + 1 + 1 + 1 + 1 + 1 + 1)] ++ [.string (Items.markZ (z + 1 + 1 + 1 + 1 + 1 + 1 + 1))] ++ [.string (Items.markZ (z + 1 + 1 + 1 + 1 + 1 + 1 + 1 + 1))] = flat (marksEn (n + 1) k) := by
  subst hz
  have e2 : ∀ z : Int, z + 1 + 1 = z + 2 := fun z => by omega
  have e3 : ∀ z : Int, z + 1 + 1 + 1 = z + 3 := fun z => by omega
  have e4 : ∀ z : Int, z + 1 + 1 + 1 + 1 = z + 4 := fun z => by omega
  have e5 : ∀ z : Int, z + 1 + 1 + 1 + 1 + 1 = z + 5 := fun z => by omega
  have e6 : ∀ z : Int, z + 1 + 1 + 1 + 1 + 1 + 1 = z + 6 := fun z => by omega
  have e7 : ∀ z : Int, z + 1 + 1 + 1 + 1 + 1 + 1 + 1 = z + 7 := fun z => by omega
  have e8 : ∀ z : Int, z + 1 + 1 + 1 + 1 + 1 + 1 + 1 + 1 = z + 8 := fun z => by omega
  rw [marksEn_succ, flat_append, flat_one, e8, e7, e6, e5, e4, e3, e2]
  simp [Cel.cs, markEn]
set_option maxRecDepth 100000 in
set_option maxHeartbeats 4000000 in
theorem markEntryS_any (b o cap m : Nat) (k : Int) (hk : 1 <= k) (hk' : k <= 100000000) (hm : m <= 3000000) (w : World) (hb : b < w.heap.size) (hth : w.there b o (m * 9)) :
    Calls Tryz.prog 65 #[.slice (some ⟨b, o, none⟩) m cap, .int .i64 k] w fun e w' => e = .returned (.int .i64 (k + (m : Int) * 9)) /\ Only b w w' /\ In w' b o (marksEn m k) /\ w'.there b o (m * 9) := by
  have HT := hidP hth
  clear hth
  go_enter Tryz.func65, Tryz.ntmps65
  go_wp2
  go_loopw [1, 5] (fun kk i w' => ∃ (n : Nat) (z : Int), i = .int .i64 (n : Int) /\ kk = .int .i64 z /\ n <= m /\ 1 <= z /\ z <= 900000000 /\ Only b w w' /\ Hid (z = k + (n : Int) * 9) /\ Hid (In w' b o (marksEn n k)) /\ Hid (w'.there b o (m * 9))) (fun _ i _ => m - (intOf i).toNat)
  case atStart => exact ⟨0, k, rfl, rfl, by omega, hk, by omega, Only.refl _ _, by simp [Hid], In.nil _ _ _, HT.out⟩
  case round =>
    obtain ⟨n, z, rfl, rfl, hn, hz1, hz2, ho, hz, hin, hth⟩ := hrel
    by_cases hlt : n < m
    . obtain ⟨⟨v0, d0⟩, f0⟩ := there_at (f := 0) hth.out hlt (by omega)
      rw [Nat.add_zero] at d0 f0
      obtain ⟨⟨v1, d1⟩, f1⟩ := there_at (f := 1) hth.out hlt (by omega)
      obtain ⟨⟨v2, d2⟩, f2⟩ := there_at (f := 2) hth.out hlt (by omega)
      obtain ⟨⟨v3, d3⟩, f3⟩ := there_at (f := 3) hth.out hlt (by omega)
      obtain ⟨⟨v4, d4⟩, f4⟩ := there_at (f := 4) hth.out hlt (by omega)
      obtain ⟨⟨v5, d5⟩, f5⟩ := there_at (f := 5) hth.out hlt (by omega)
      obtain ⟨⟨v6, d6⟩, f6⟩ := there_at (f := 6) hth.out hlt (by omega)
      obtain ⟨⟨v7, d7⟩, f7⟩ := there_at (f := 7) hth.out hlt (by omega)
      obtain ⟨⟨v8, d8⟩, f8⟩ := there_at (f := 8) hth.out hlt (by omega)
      have q1 : b < wr.heap.size := Nat.lt_of_lt_of_le hb ho.size
      go_wp2_with fail
      refine (Items.markText_at _ (by omega) (by omega) _).mono ?_
      rintro e w1 ⟨rfl, g1⟩
      obtain ⟨k1, m1⟩ := bcell g1
      have q2 : b < w1.heap.size := (by have t1 := g1.size; simp at t1; exact Nat.lt_of_lt_of_le q1 t1)
      go_wp2_with fail
      refine (Items.markText_at _ (by omega) (by omega) _).mono ?_
      rintro e w2 ⟨rfl, g2⟩
      obtain ⟨k2, m2⟩ := bcell g2
      have q3 : b < w2.heap.size := (by have t1 := g2.size; simp at t1; exact Nat.lt_of_lt_of_le q2 t1)
      go_wp2
      have hlen : (flat (marksEn n k)).length = n * 9 := by rw [flat_length, marksEn_length]; rfl
      have P0 := push (v := .int .i64 z) (q := o + n * 9) ⟨hin.out, hth.out, Nat.lt_of_lt_of_le hb ho.size⟩ (by rw [hlen]; omega) (by rw [hlen])
      have P1 := push (v := .int .i64 (z + 1)) (q := o + n * 9 + 1) P0 (by simp [hlen]; omega) (by simp [hlen]; omega)
      have P2 := push (v := .int .i64 (z + 1 + 1)) (q := o + n * 9 + 1 + 1) P1 (by simp [hlen]; omega) (by simp [hlen]; omega)
      have P3 := push (v := .int .i64 (z + 1 + 1 + 1)) (q := o + n * 9 + 1 + 2) P2 (by simp [hlen]; omega) (by simp [hlen]; omega)
      have P4 := push (v := .int .i64 (z + 1 + 1 + 1 + 1)) (q := o + n * 9 + 1 + 3) P3 (by simp [hlen]; omega) (by simp [hlen]; omega)
      have P5 := push (v := .int .i64 (z + 1 + 1 + 1 + 1 + 1)) (q := o + n * 9 + 1 + 4) P4 (by simp [hlen]; omega) (by simp [hlen]; omega)
      have P6 := push (v := .int .i64 (z + 1 + 1 + 1 + 1 + 1 + 1)) (q := o + n * 9 + 1 + 5) P5 (by simp [hlen]; omega) (by simp [hlen]; omega)
      have P7 := push (v := .string (Items.markZ (z + 1 + 1 + 1 + 1 + 1 + 1 + 1))) (q := o + n * 9 + 1 + 6) (pushcall P6 g1) (by simp [hlen]; omega) (by simp [hlen]; omega)
      have P8 := push (v := .string (Items.markZ (z + 1 + 1 + 1 + 1 + 1 + 1 + 1 + 1))) (q := o + n * 9 + 1 + 7) (pushcall P7 g2) (by simp [hlen]; omega) (by simp [hlen]; omega)
      rw [marksEn_flat n k z hz.out] at P8
      have hz' := hz.out
      refine ⟨⟨n + 1, z + 1 + 1 + 1 + 1 + 1 + 1 + 1 + 1 + 1, by go_num, rfl, by omega, by omega, by omega, ?_, by show z + 1 + 1 + 1 + 1 + 1 + 1 + 1 + 1 + 1 = _; omega, P8.1, P8.2.1⟩, by simp [intOf]; omega⟩
      exact ((((((((((ho.set _ _).set _ _).set _ _).set _ _).set _ _).set _ _).set _ _).below g1).set _ _).below g2).set _ _
    . obtain rfl : n = m := by omega
      go_wp2
      go_ret
      have e := hz.out
      subst e
      exact ⟨rfl, ho, hin.out, hth.out⟩
end Go.Proofs.YtaefjifcnoiplaaGreat.Gen

/-
  The laws' toItem, toItemS and toRow: a row in new memory that holds the same items. No condition but that the items are at most 1048576.
-/
namespace Go.Proofs.YtaefjifcnoiplaaGreat.Items
open Go.ChangeShapes Go.WideShapes Go.ChangeAt Go.RowKit Base
set_option linter.unusedVariables false
theorem toItem_any (off who time : Int) (k t : ByteArray) (w : World) :
    Calls Tryz.prog 168 #[.agg #[.int .i64 off, .string k, .string t, .int .i64 who, .int .i64 time]] w fun e w' => e = .returned (.agg #[.int .i64 off, .string k, .string t, .int .i64 who, .int .i64 time]) /\ Below w.heap.size w w' := by
  go_enter Tryz.func168, Tryz.ntmps168
  go_wp2
  exact bodyPost_ret (v := .agg #[.int .i64 off, .string k, .string t, .int .i64 who, .int .i64 time]) (by simp [results, Tryz.results168, go_sem]) rfl ⟨rfl, by repeat (first | exact Below.refl _ _ | refine via0 (by assumption) ?_ | refine Below.drew ?_ | refine alloc0 ?_ _)⟩
def zeroItem : Value := .agg #[.int .i64 0, .string ⟨#[]⟩, .string ⟨#[]⟩, .int .i64 0, .int .i64 0]
def zeros (n : Nat) : Array Value := madeCells zeroItem.cells (n * 5)
theorem infoItem : (Tryz.prog.info? 151).map (fun i => (i.zero, i.size, i.bytes)) = some (some zeroItem, 5, 56) := by kernel_rfl
theorem make_items (n : Nat) (hn : n <= 1048576) (w : World) :
    (Instr.makeSlice 140 (.int .i64 (n : Int)) (.int .i64 (n : Int))).run Tryz.prog w = .ok (.slice (some ⟨w.heap.size, 0, none⟩) n n) (w.alloc (.cells (zeros n) 151)) := by
  have h := infoItem
  cases hi : Tryz.prog.info? 151 with
  | none => rw [hi] at h; simp at h
  | some i =>
    rw [hi] at h
    simp only [Option.map_some, Option.some.injEq, Prod.mk.injEq] at h
    obtain ⟨hz, hs, hb⟩ := h
    have r := run_make (P := Tryz.prog) w 140 151 i zeroItem Tryz.underlying140 hi hz .i64 .i64 n n (by omega) (Int.le_refl _) (by rw [hb]; omega) (by omega)
    rw [r, hs]
    simp [zeros]
theorem zeros_size (n : Nat) : (zeros n).size = n * 5 := size_madeCells _ _
theorem rangeAt_append {w : World} {b o : Nat} {xs ys : List Value} (h1 : w.rangeAt b o xs) (h2 : w.rangeAt b (o + xs.length) ys) : w.rangeAt b o (xs ++ ys) := fun j v hv => by
  by_cases hj : j < xs.length
  . exact h1 j v (by rwa [List.getElem?_append_left hj] at hv)
  . rw [List.getElem?_append_right (by omega)] at hv
    have := h2 (j - xs.length) v hv
    have e : o + xs.length + (j - xs.length) = o + j := by omega
    rwa [e] at this
theorem there_below {w w' : World} {b o n : Nat} (h : w.there b o n) (hb : b < w.heap.size) (hw : Below w.heap.size w w') : w'.there b o n := fun j hj => by
  rw [hw.cell (p := ⟨b, o + j, none⟩) hb, hw.frozen (p := ⟨b, o + j, none⟩) hb]
  exact h j hj
theorem store_item {w : World} {b : Nat} {l : List It} {n : Nat} (hin : In w b 0 (l.take n)) (hth : w.there b 0 (l.length * 5)) (hn : n < l.length) :
    In (w.setCells b (n * 5) l[n].cs) b 0 (l.take (n + 1)) /\ (w.setCells b (n * 5) l[n].cs).there b 0 (l.length * 5) := by
  have hlen : (flat (l.take n)).length = n * 5 := by rw [flat_length, List.length_take]; omega
  refine ⟨?_, World.there_setCells hth _ _ _⟩
  unfold In
  rw [List.take_succ_eq_append_getElem hn, flat_append, flat_one]
  refine rangeAt_append (World.rangeAt_setCells_apart hin _ _ _ (.inr (.inl (by rw [hlen]; omega)))) ?_
  rw [hlen, Nat.zero_add]
  refine World.rangeAt_setCells_same _ _ _ _ fun j hj => ?_
  have hj' : j < 5 := hj
  have := hth (n * 5 + j) (by omega)
  rwa [Nat.zero_add] at this
theorem made_there (w : World) (n : Nat) : (w.alloc (.cells (zeros n) 151)).there w.heap.size 0 (n * 5) := fun j hj => by
  have : j < (zeros n).size := by rw [zeros_size]; exact hj
  simp [this]
theorem toItemS_any (A : Option Addr) (cap : Nat) (l : List It) (hl : l.length <= 1048576) (w : World)
    (hA : l = [] ∨ ∃ b o, A = some ⟨b, o, none⟩ /\ b < w.heap.size /\ In w b o l) :
    Calls Tryz.prog 142 #[.slice A l.length cap] w fun e w' => e = .returned (.slice (some ⟨w.heap.size, 0, none⟩) l.length l.length) /\ Below w.heap.size w w' /\ w.heap.size < w'.heap.size /\ In w' w.heap.size 0 l /\ w'.there w.heap.size 0 (l.length * 5) := by
  have HA : Hid (l = [] ∨ ∃ b o, A = some ⟨b, o, none⟩ /\ b < w.heap.size /\ In w b o l) := hA
  clear hA
  have hmk := make_items l.length hl
  go_enter Tryz.func142, Tryz.ntmps142
  go_wp2
  go_loopw [4] (fun i w' => ∃ (n : Nat), i = .int .i64 (n : Int) /\ n <= l.length /\ Below w.heap.size w w' /\ w.heap.size < w'.heap.size /\ Hid (In w' w.heap.size 0 (l.take n)) /\ Hid (w'.there w.heap.size 0 (l.length * 5))) (fun i _ => l.length - (intOf i).toNat)
  case atStart => exact ⟨0, rfl, by omega, by repeat (first | exact Below.refl _ _ | refine via0 (by assumption) ?_ | refine Below.drew ?_ | refine alloc0 ?_ _), by simp, fun j v hv => by simp [flat] at hv, made_there w _⟩
  case round =>
    obtain ⟨n, rfl, hn, hbl, hsz, hin, hth⟩ := hrel
    by_cases hlt : n < l.length
    . obtain ⟨b, o, rfl, hbs, hIn⟩ : ∃ b o, A = some ⟨b, o, none⟩ /\ b < w.heap.size /\ In w b o l := by
        rcases HA.out with h | h
        . subst h; simp at hlt
        . exact h
      obtain ⟨hc0, hc1, hc2, hc3, hc4⟩ := (hIn.below hbs hbl).get n hlt
      have hT : ∀ f, f < 5 -> (∃ v, wr.cell? ⟨w.heap.size, n * 5 + f, none⟩ = some v) /\ wr.frozen? ⟨w.heap.size, n * 5 + f, none⟩ = false := fun f hf => by
        have := hth.out (n * 5 + f) (by omega)
        rw [Nat.zero_add] at this
        exact ⟨Option.isSome_iff_exists.1 this.1, this.2⟩
      obtain ⟨⟨v0, d0⟩, f0⟩ := hT 0 (by omega)
      rw [Nat.add_zero] at d0 f0
      obtain ⟨⟨v1, d1⟩, f1⟩ := hT 1 (by omega)
      obtain ⟨⟨v2, d2⟩, f2⟩ := hT 2 (by omega)
      obtain ⟨⟨v3, d3⟩, f3⟩ := hT 3 (by omega)
      obtain ⟨⟨v4, d4⟩, f4⟩ := hT 4 (by omega)
      clear hT
      go_wp2_with (go_at_call 168; refine (toItem_any _ _ _ _ _ _).mono ?_; rintro e w1 ⟨rfl, g1⟩; obtain ⟨k1, m1⟩ := bcell g1; have s1 := g1.size)
      have hst := store_item (hin.out.below hsz g1) (there_below hth.out hsz g1) hlt
      refine ⟨⟨n + 1, by go_num, by omega, ?_, by simp; omega, hst.1, hst.2⟩, by simp [intOf]; omega⟩
      exact (((((via0 g1 hbl).setCell (Nat.le_refl _) _).setCell (Nat.le_refl _) _).setCell (Nat.le_refl _) _).setCell (Nat.le_refl _) _).setCell (Nat.le_refl _) _
    . have e : l.take n = l := List.take_of_length_le (by omega)
      go_wp2
      go_ret
      exact ⟨rfl, hbl, hsz, by have := hin.out; rwa [e] at this, hth.out⟩
theorem In.set {w : World} {b o : Nat} {l : List It} (h : In w b o l) (p : Addr) (v : Value) (hp : p.block ≠ b) : In (w.setCell p v) b o l := fun j u hu => by
  rw [World.cell?_setCell_other (h := fun e => hp (by rw [e]))]; exact h j u hu
theorem there_set {w : World} {b o n : Nat} (h : w.there b o n) (b' o' : Nat) (v : Value) : (w.setCell ⟨b', o', none⟩ v).there b o n := World.there_setCells h b' o' [v]
def Fresh (B : Nat) (w : World) (v : Value) (l : List It) : Prop :=
  ∃ (A : Option Addr) (c : Nat), v = .slice A l.length c /\ l.length <= c /\ (l = [] ∨ ∃ b o, A = some ⟨b, o, none⟩ /\ B <= b /\ b < w.heap.size /\ In w b o l /\ w.there b o (l.length * 5))
theorem toRow_any (start next : Int) (A : Option Addr) (cap : Nat) (l : List It) (hl : l.length <= 1048576) (w : World)
    (hA : l = [] ∨ ∃ b o, A = some ⟨b, o, none⟩ /\ b < w.heap.size /\ In w b o l) :
    Calls Tryz.prog 89 #[.agg #[.int .i64 start, .int .i64 next, .slice A l.length cap]] w
      fun e w' => ∃ b, e = .returned (.agg #[.int .i64 start, .int .i64 next, .slice (some ⟨b, 0, none⟩) l.length l.length]) /\ Below w.heap.size w w' /\ w.heap.size <= b /\ b < w'.heap.size /\ In w' b 0 l /\ w'.there b 0 (l.length * 5) := by
  have hA' : ∀ W : World, Below w.heap.size w W -> l = [] ∨ ∃ b o, A = some ⟨b, o, none⟩ /\ b < W.heap.size /\ In W b o l := fun W hW => by
    rcases hA with h | ⟨b, o, h1, h2, h3⟩
    . exact .inl h
    . exact .inr ⟨b, o, h1, Nat.lt_of_lt_of_le h2 hW.size, h3.below h2 hW⟩
  have HA : Hid (∀ W : World, Below w.heap.size w W -> l = [] ∨ ∃ b o, A = some ⟨b, o, none⟩ /\ b < W.heap.size /\ In W b o l) := hA'
  clear hA hA'
  go_enter Tryz.func89, Tryz.ntmps89
  go_wp2_with (go_at_call 142; refine (toItemS_any A cap l hl _ (HA.out _ ?_)).mono ?_; (repeat (first | exact Below.refl _ _ | refine via0 (by assumption) ?_ | refine Below.drew ?_ | refine alloc0 ?_ _)); rintro e w1 ⟨rfl, g1, s1, i1, t1⟩; obtain ⟨k1, m1⟩ := bcell g1)
  have i2 : In w1 (w.heap.size + 1 + 1 + 1) 0 l := by simpa using i1
  have t2 : w1.there (w.heap.size + 1 + 1 + 1) 0 (l.length * 5) := by simpa using t1
  have s2 : w.heap.size + 1 + 1 + 1 < w1.heap.size := by simpa using s1
  have g2 : Below w.heap.size w w1 := via0 g1 (by repeat (first | exact Below.refl _ _ | refine via0 (by assumption) ?_ | refine Below.drew ?_ | refine alloc0 ?_ _))
  refine bodyPost_ret (v := .agg #[.int .i64 start, .int .i64 next, .slice (some ⟨w.heap.size + 1 + 1 + 1, 0, none⟩) l.length l.length]) (by simp [results, Tryz.results89, go_sem, k1]) rfl ⟨w.heap.size + 1 + 1 + 1, rfl, ?_, by omega, by simp; omega, ?_, ?_⟩
  . exact ((((g2.setCell (by show _ <= w.heap.size + 1 + 1; omega) _).setCell (by show _ <= w.heap.size + 1; omega) _).setCell (by show _ <= w.heap.size + 1; omega) _).setCell (by show _ <= w.heap.size + 1; omega) _)
  . exact (((i2.set _ _ (by simp)).set _ _ (by simp)).set _ _ (by simp)).set _ _ (by simp)
  . exact there_set (there_set (there_set (there_set t2 _ _ _) _ _ _) _ _ _) _ _ _
end Go.Proofs.YtaefjifcnoiplaaGreat.Items

/-
  The laws' markItemS, markRow, heldItemS and heldRow: marks are laid into one block alone, and are found there again. No condition but that the items are at most 1048576.
-/
namespace Go.Proofs.YtaefjifcnoiplaaGreat.Items
open Go.ChangeShapes Go.WideShapes Go.ChangeAt Go.RowKit Base
set_option linter.unusedVariables false
structure Only (b : Nat) (w w' : World) : Prop where
  os : w'.os = w.os
  tape : w'.tape = w.tape
  output : w'.output = w.output
  size : w.heap.size <= w'.heap.size
  block : ∀ k, k < w.heap.size -> k ≠ b -> w'.heap[k]? = w.heap[k]?
theorem Only.refl (b : Nat) (w : World) : Only b w w := ⟨rfl, rfl, rfl, Nat.le_refl _, fun _ _ _ => rfl⟩
theorem Only.below {b : Nat} {w w1 w2 : World} (h : Only b w w1) (k : Below w1.heap.size w1 w2) : Only b w w2 :=
  ⟨k.os.trans h.os, k.tape.trans h.tape, k.output.trans h.output, Nat.le_trans h.size k.size, fun i hi hb => (k.block i (Nat.lt_of_lt_of_le hi h.size)).trans (h.block i hi hb)⟩
theorem Only.set {b : Nat} {w w1 : World} (h : Only b w w1) (o : Nat) (v : Value) : Only b w (w1.setCell ⟨b, o, none⟩ v) :=
  ⟨h.os, h.tape, h.output, by simpa using h.size, fun i hi hb => (Below.heap_setCell w1 ⟨b, o, none⟩ v i hb).trans (h.block i hi hb)⟩
theorem Only.toBelow {b B : Nat} {w w1 : World} (h : Only b w w1) (hB : B <= b) (hw : B <= w.heap.size) : Below B w w1 :=
  ⟨h.os, h.tape, h.output, h.size, fun i hi => h.block i (by omega) (by omega)⟩
theorem lt_set {b n : Nat} {w : World} {p : Addr} {v : Value} (h : b < w.heap.size) (k : (w.setCell p v).heap.size <= n) : b < n := by simp at k; omega
def markI (z : Int) : It := ⟨z, markZ (z + 1), markZ (z + 2), z + 3, z + 4⟩
def marks (n : Nat) (z : Int) : List It := (List.range n).map fun (i : Nat) => markI (z + (i : Int) * 5)
theorem marks_length (n : Nat) (z : Int) : (marks n z).length = n := by simp [marks]
theorem marks_succ (n : Nat) (z : Int) : marks (n + 1) z = marks n z ++ [markI (z + (n : Int) * 5)] := by simp [marks, List.range_succ]
theorem rangeAt_below {w w' : World} {b o : Nat} {cs : List Value} (h : w.rangeAt b o cs) (hb : b < w.heap.size) (hw : Below w.heap.size w w') : w'.rangeAt b o cs :=
  fun j v hv => (hw.cell (p := ⟨b, o + j, none⟩) hb).trans (h j v hv)
theorem push {w : World} {b o q m : Nat} {cs : List Value} {v : Value} (h : w.rangeAt b o cs /\ w.there b o m /\ b < w.heap.size) (hl : cs.length < m) (hq : q = o + cs.length) :
    (w.setCell ⟨b, q, none⟩ v).rangeAt b o (cs ++ [v]) /\ (w.setCell ⟨b, q, none⟩ v).there b o m /\ b < (w.setCell ⟨b, q, none⟩ v).heap.size := by
  subst hq
  obtain ⟨h, ht, hb⟩ := h
  refine ⟨rangeAt_append (World.rangeAt_setCells_apart h b (o + cs.length) [v] (.inr (.inl (Nat.le_refl _)))) (World.rangeAt_setCells_same w b (o + cs.length) [v] fun j hj => ?_), World.there_setCells ht b _ [v], by simpa using hb⟩
  have hj' : j = 0 := by simp at hj; exact hj
  subst hj'
  exact ht cs.length hl
theorem call {w w' : World} {b o m : Nat} {cs : List Value} (h : w.rangeAt b o cs /\ w.there b o m /\ b < w.heap.size) (k : Below w.heap.size w w') : w'.rangeAt b o cs /\ w'.there b o m /\ b < w'.heap.size :=
  ⟨rangeAt_below h.1 h.2.2 k, there_below h.2.1 h.2.2 k, Nat.lt_of_lt_of_le h.2.2 k.size⟩
theorem marks_flat (n : Nat) (k z : Int) (hz : z = k + (n : Int) * 5) :
    flat (marks n k) ++ [.int .i64 z] ++ [.string (markZ (z + 1))] ++ [.string (markZ (z + 1 + 1))] ++ [.int .i64 (z + 1 + 1 + 1)] ++ [.int .i64 (z + 1 + 1 + 1 + 1)] = flat (marks (n + 1) k) := by
  subst hz
  have e2 : ∀ z : Int, z + 1 + 1 = z + 2 := fun z => by omega
  have e3 : ∀ z : Int, z + 1 + 1 + 1 = z + 3 := fun z => by omega
  have e4 : ∀ z : Int, z + 1 + 1 + 1 + 1 = z + 4 := fun z => by omega
  rw [marks_succ, flat_append, flat_one, e4, e3, e2]
  simp [It.cs, markI]
set_option maxHeartbeats 1000000 in
theorem markItemS_any (b o cap m : Nat) (k : Int) (hk : 1 <= k) (hk' : k <= 100000000) (hm : m <= 1048576) (w : World) (hb : b < w.heap.size) (hth : w.there b o (m * 5)) :
    Calls Tryz.prog 130 #[.slice (some ⟨b, o, none⟩) m cap, .int .i64 k] w fun e w' => e = .returned (.int .i64 (k + (m : Int) * 5)) /\ Only b w w' /\ In w' b o (marks m k) /\ w'.there b o (m * 5) := by
  have HT : Hid (w.there b o (m * 5)) := hth
  clear hth
  go_enter Tryz.func130, Tryz.ntmps130
  go_wp2
  go_loopw [1, 5] (fun kk i w' => ∃ (n : Nat) (z : Int), i = .int .i64 (n : Int) /\ kk = .int .i64 z /\ n <= m /\ 1 <= z /\ z <= 900000000 /\ Only b w w' /\ Hid (z = k + (n : Int) * 5) /\ Hid (In w' b o (marks n k)) /\ Hid (w'.there b o (m * 5))) (fun _ i _ => m - (intOf i).toNat)
  case atStart => exact ⟨0, k, rfl, rfl, by omega, hk, by omega, Only.refl _ _, by simp [Hid], fun j v hv => by simp [marks, flat] at hv, HT.out⟩
  case round =>
    obtain ⟨n, z, rfl, rfl, hn, hz1, hz2, ho, hz, hin, hth⟩ := hrel
    by_cases hlt : n < m
    . have hT : ∀ f, f < 5 -> (∃ v, wr.cell? ⟨b, o + n * 5 + f, none⟩ = some v) /\ wr.frozen? ⟨b, o + n * 5 + f, none⟩ = false := fun f hf => by
        have := hth.out (n * 5 + f) (by omega)
        rw [← Nat.add_assoc] at this
        exact ⟨Option.isSome_iff_exists.1 this.1, this.2⟩
      obtain ⟨⟨v0, d0⟩, f0⟩ := hT 0 (by omega)
      rw [Nat.add_zero] at d0 f0
      obtain ⟨⟨v1, d1⟩, f1⟩ := hT 1 (by omega)
      obtain ⟨⟨v2, d2⟩, f2⟩ := hT 2 (by omega)
      obtain ⟨⟨v3, d3⟩, f3⟩ := hT 3 (by omega)
      obtain ⟨⟨v4, d4⟩, f4⟩ := hT 4 (by omega)
      clear hT
      have q1 : b < wr.heap.size := Nat.lt_of_lt_of_le hb ho.size
      go_wp2_with (go_at_call 129; refine (markText_at _ ?_ ?_ _).mono ?_; omega; omega; rintro e w1 ⟨rfl, g1⟩; obtain ⟨k1, m1⟩ := bcell g1; have s1 := g1.size; have q1 : b < w1.heap.size := lt_set q1 s1)
      have hlen : (flat (marks n k)).length = n * 5 := by rw [flat_length, marks_length]
      have P0 := push (v := .int .i64 z) (q := o + n * 5) ⟨hin.out, hth.out, Nat.lt_of_lt_of_le hb ho.size⟩ (by rw [hlen]; omega) (by rw [hlen])
      have P1 := push (v := .string (markZ (z + 1))) (q := o + n * 5 + 1) (call P0 (by assumption)) (by simp [hlen]; omega) (by simp [hlen]; omega)
      have P2 := push (v := .string (markZ (z + 1 + 1))) (q := o + n * 5 + 2) (call P1 g1) (by simp [hlen]; omega) (by simp [hlen]; omega)
      have P3 := push (v := .int .i64 (z + 1 + 1 + 1)) (q := o + n * 5 + 3) P2 (by simp [hlen]; omega) (by simp [hlen]; omega)
      have P4 := push (v := .int .i64 (z + 1 + 1 + 1 + 1)) (q := o + n * 5 + 4) P3 (by simp [hlen]; omega) (by simp [hlen]; omega)
      rw [marks_flat n k z hz.out] at P4
      have hz' := hz.out
      refine ⟨⟨n + 1, z + 1 + 1 + 1 + 1 + 1, by go_num, rfl, by omega, by omega, by omega, ?_, by show z + 1 + 1 + 1 + 1 + 1 = _; omega, P4.1, P4.2.1⟩, by simp [intOf]; omega⟩
      exact ((((((ho.set _ _).below (by assumption)).set _ _).below g1).set _ _).set _ _).set _ _
    . obtain rfl : n = m := by omega
      go_wp2
      go_ret
      have e := hz.out
      subst e
      exact ⟨rfl, ho, hin.out, hth.out⟩
end Go.Proofs.YtaefjifcnoiplaaGreat.Items

/-
  The laws' eqItem, eqItemS and eqRow: what holds the same items is told alike. No condition.
-/
namespace Go.Proofs.YtaefjifcnoiplaaGreat.Items
open Go.ChangeShapes Go.WideShapes Go.ChangeAt Go.RowKit Base
set_option linter.unusedVariables false
theorem eqItem_same (off who time : Int) (k t : ByteArray) (w : World) :
    Calls Tryz.prog 179 #[.agg #[.int .i64 off, .string k, .string t, .int .i64 who, .int .i64 time], .agg #[.int .i64 off, .string k, .string t, .int .i64 who, .int .i64 time]] w fun e w' => e = .returned (.bool true) /\ Below w.heap.size w w' := by
  go_enter Tryz.func179, Tryz.ntmps179
  go_wp2
  go_ret
  exact ⟨rfl, by repeat (first | exact Below.refl _ _ | refine via0 (by assumption) ?_ | refine Below.drew ?_ | refine alloc0 ?_ _)⟩
theorem eqItemS_same (A A' : Option Addr) (cap cap' : Nat) (l : List It) (hl : l.length <= 9223372036854775807) (w : World)
    (hA : l = [] ∨ ∃ b o, A = some ⟨b, o, none⟩ /\ b < w.heap.size /\ In w b o l) (hA' : l = [] ∨ ∃ b o, A' = some ⟨b, o, none⟩ /\ b < w.heap.size /\ In w b o l) :
    Calls Tryz.prog 165 #[.slice A l.length cap, .slice A' l.length cap'] w fun e w' => e = .returned (.bool true) /\ Below w.heap.size w w' := by
  have HA : Hid (l = [] ∨ ∃ b o, A = some ⟨b, o, none⟩ /\ b < w.heap.size /\ In w b o l) := hA
  have HA' : Hid (l = [] ∨ ∃ b o, A' = some ⟨b, o, none⟩ /\ b < w.heap.size /\ In w b o l) := hA'
  clear hA hA'
  go_enter Tryz.func165, Tryz.ntmps165
  go_wp2
  go_loopw [5] (fun i w' => ∃ (n : Nat), i = .int .i64 (n : Int) /\ n <= l.length /\ Below w.heap.size w w') (fun i _ => l.length - (intOf i).toNat)
  case atStart => exact ⟨0, rfl, by omega, Below.refl _ _⟩
  case round =>
    obtain ⟨n, rfl, hn, hbl⟩ := hrel
    by_cases hlt : n < l.length
    . obtain ⟨b, o, rfl, hbs, hin⟩ : ∃ b o, A = some ⟨b, o, none⟩ /\ b < w.heap.size /\ In w b o l := by
        rcases HA.out with h | h
        . subst h; simp at hlt
        . exact h
      obtain ⟨b', o', rfl, hbs', hin'⟩ : ∃ b o, A' = some ⟨b, o, none⟩ /\ b < w.heap.size /\ In w b o l := by
        rcases HA'.out with h | h
        . subst h; simp at hlt
        . exact h
      obtain ⟨c0, c1, c2, c3, c4⟩ := (hin.below hbs hbl).get n hlt
      obtain ⟨d0, d1, d2, d3, d4⟩ := (hin'.below hbs' hbl).get n hlt
      have hb1 : b < wr.heap.size := Nat.lt_of_lt_of_le hbs hbl.size
      have hb2 : b' < wr.heap.size := Nat.lt_of_lt_of_le hbs' hbl.size
      have hi0 : (0 : Int) <= (n : Int) := by omega
      have hi1 : (n : Int) < (l.length : Int) := by omega
      go_wp2
      go_region_held3 (fun w' => w'.cell? ⟨b, o + n * 5, none⟩ = some (.int .i64 l[n].off) /\ w'.cell? ⟨b, o + n * 5 + 1, none⟩ = some (.string l[n].key) /\ w'.cell? ⟨b, o + n * 5 + 2, none⟩ = some (.string l[n].text) /\ w'.cell? ⟨b, o + n * 5 + 3, none⟩ = some (.int .i64 l[n].who) /\ w'.cell? ⟨b, o + n * 5 + 4, none⟩ = some (.int .i64 l[n].time) /\
          w'.cell? ⟨b', o' + n * 5, none⟩ = some (.int .i64 l[n].off) /\ w'.cell? ⟨b', o' + n * 5 + 1, none⟩ = some (.string l[n].key) /\ w'.cell? ⟨b', o' + n * 5 + 2, none⟩ = some (.string l[n].text) /\ w'.cell? ⟨b', o' + n * 5 + 3, none⟩ = some (.int .i64 l[n].who) /\ w'.cell? ⟨b', o' + n * 5 + 4, none⟩ = some (.int .i64 l[n].time) /\ wr.heap.size <= w'.heap.size)
        (first | (go_split_ands; refine ⟨?_, ?_, ?_, ?_, ?_, ?_, ?_, ?_, ?_, ?_, ?_⟩<;>first | assumption | exact (k1 _ _ hb1).trans (by assumption) | exact (k1 _ _ hb2).trans (by assumption) | exact s1 | (simp; done)) | go_keep)
        (first
          | (go_at_call 179; refine (eqItem_same _ _ _ _ _ _).mono ?_; rintro e w1 ⟨rfl, g1⟩; obtain ⟨k1, m1⟩ := bcell g1; have s1 := g1.size))
      all_goals
        go_wp2
        exact ⟨⟨n + 1, by go_num, by omega, via0 g1 hbl.drew⟩, by simp [intOf]; omega⟩
    . go_wp2
      go_ret
      exact ⟨rfl, hbl⟩
theorem eqRow_same (start next : Int) (A A' : Option Addr) (cap cap' : Nat) (l : List It) (hl : l.length <= 9223372036854775807) (w : World)
    (hA : l = [] ∨ ∃ b o, A = some ⟨b, o, none⟩ /\ b < w.heap.size /\ In w b o l) (hA' : l = [] ∨ ∃ b o, A' = some ⟨b, o, none⟩ /\ b < w.heap.size /\ In w b o l) :
    Calls Tryz.prog 125 #[.agg #[.int .i64 start, .int .i64 next, .slice A l.length cap], .agg #[.int .i64 start, .int .i64 next, .slice A' l.length cap']] w fun e w' => e = .returned (.bool true) /\ Below w.heap.size w w' := by
  have up : ∀ {A : Option Addr}, (l = [] ∨ ∃ b o, A = some ⟨b, o, none⟩ /\ b < w.heap.size /\ In w b o l) -> ∀ W : World, Below w.heap.size w W -> l = [] ∨ ∃ b o, A = some ⟨b, o, none⟩ /\ b < W.heap.size /\ In W b o l := fun hA W hW => by
    rcases hA with h | ⟨b, o, h1, h2, h3⟩
    . exact .inl h
    . exact .inr ⟨b, o, h1, Nat.lt_of_lt_of_le h2 hW.size, h3.below h2 hW⟩
  have HA : Hid (∀ W : World, Below w.heap.size w W -> l = [] ∨ ∃ b o, A = some ⟨b, o, none⟩ /\ b < W.heap.size /\ In W b o l) := up hA
  have HA' : Hid (∀ W : World, Below w.heap.size w W -> l = [] ∨ ∃ b o, A' = some ⟨b, o, none⟩ /\ b < W.heap.size /\ In W b o l) := up hA'
  clear hA hA' up
  go_enter Tryz.func125, Tryz.ntmps125
  go_wp2_with (go_at_call 165; refine (eqItemS_same A A' cap cap' l hl _ (HA.out _ ?_) (HA'.out _ ?_)).mono ?_; (repeat (first | exact Below.refl _ _ | refine via0 (by assumption) ?_ | refine Below.drew ?_ | refine alloc0 ?_ _)); (repeat (first | exact Below.refl _ _ | refine via0 (by assumption) ?_ | refine Below.drew ?_ | refine alloc0 ?_ _)); rintro e w1 ⟨rfl, g1⟩)
  go_ret
  refine ⟨rfl, ?_⟩
  repeat (first | exact Below.refl _ _ | refine via0 (by assumption) ?_ | refine Below.drew ?_ | refine alloc0 ?_ _)
end Go.Proofs.YtaefjifcnoiplaaGreat.Items

/-
  A laws.Row argument opened: its numbers, and its items as they lie. No condition.
-/
namespace Go.Proofs.YtaefjifcnoiplaaGreat.Items
open Go.ChangeShapes Go.WideShapes Go.ChangeAt Go.RowKit Go.Joins Go.Deep Base
set_option linter.unusedVariables false
instance : Inhabited It := ⟨⟨0, ⟨#[]⟩, ⟨#[]⟩, 0, 0⟩⟩
abbrev At (w : World) (A : Option Addr) (l : List It) : Prop := l = [] ∨ ∃ b o, A = some ⟨b, o, none⟩ /\ b < w.heap.size /\ In w b o l
theorem At.below {w w' : World} {A : Option Addr} {l : List It} (h : At w A l) (hw : Below w.heap.size w w') : At w' A l :=
  h.imp id fun ⟨b, o, e, hb, hi⟩ => ⟨b, o, e, Nat.lt_of_lt_of_le hb hw.size, hi.below hb hw⟩
def I64 (x : Int) : Prop := -9223372036854775808 <= x /\ x <= 9223372036854775807
theorem i64_of {x : Int} (hx : (Lit.int .i64 x).wf = true) : I64 x := by simpa [I64, Lit.wf, IntKind.min, IntKind.max, IntKind.signed, IntKind.bits] using hx
def It.right (x : It) : Prop := I64 x.off /\ I64 x.who /\ I64 x.time /\ x.key.size <= 9223372036854775807 /\ x.text.size <= 9223372036854775807
theorem fields_at {H : Type} {enc : TypeId × Value -> H} {P : Program} {w : World} {base : Nat} {spare : Nat -> Bool} {held : Bool} {t : TypeId} {fs : Array Field} {cs : List Value} {fuel : Nat} {x : DataW H × List MemPlace}
    (hs : P.underlying t = some (.struct fs)) (hone : oneCellFields P fs = true) (h : DataW.trod enc P w base spare held fuel t cs = some x) :
    ∃ n, ∀ (i : Nat) (f : Field), fs[i]? = some f -> ∀ c, cs[i]? = some c -> ∃ y, DataW.trod enc P w base spare held n f.type [c] = some y := by
  obtain ⟨xs, n, _, _, hl, hlen, hf⟩ := DataW.trod_struct hs h
  refine ⟨n, fun i f hi c hc => ?_⟩
  obtain ⟨o, k⟩ := hone_of hone i f hi
  have hlt : i < fs.size := (Array.getElem?_eq_some_iff.1 hi).1
  have g := hf i f hi
  rw [o, k] at g
  have e : cs.drop i = c :: cs.drop (i + 1) := by
    obtain ⟨h1, h2⟩ := List.getElem?_eq_some_iff.1 hc
    rw [List.drop_eq_getElem_cons h1, h2]
  rw [e] at g
  exact ⟨xs[i]'(by omega), by rw [← List.getElem?_eq_getElem]; simpa using g⟩
theorem cellsItem : Tryz.prog.cellsOf 228 = 5 := by kernel_rfl
theorem cellsRow : Tryz.prog.cellsOf 125 = 3 := by kernel_rfl
set_option maxRecDepth 100000 in
theorem item_of {H : Type} {enc : TypeId × Value -> H} {w : World} {base n : Nat} {spare : Nat -> Bool} {held : Bool} {a : Addr} {cs : List Value} {y : DataW H × List MemPlace}
    (h1 : w.cells? base a 5 = some cs) (h2 : DataW.trod enc Tryz.prog w base spare held n 228 cs = some y) :
    ∃ x : It, x.right /\ a.spot = none /\ a.block < w.heap.size /\ ∀ j v, x.cs[j]? = some v -> w.cell? ⟨a.block, a.off + j, none⟩ = some v := by
  obtain ⟨_, hlen, hc⟩ := World.cells?_some h1
  match cs, hlen with
  | [c0, c1, c2, c3, c4], _ =>
    obtain ⟨m, hf⟩ := fields_at Tryz.underlying228 (by kernel_rfl) h2
    obtain ⟨y0, g0⟩ := hf 0 _ rfl _ rfl
    obtain ⟨y1, g1⟩ := hf 1 _ rfl _ rfl
    obtain ⟨y2, g2⟩ := hf 2 _ rfl _ rfl
    obtain ⟨y3, g3⟩ := hf 3 _ rfl _ rfl
    obtain ⟨y4, g4⟩ := hf 4 _ rfl _ rfl
    obtain ⟨off, e0, _, w0⟩ := DataW.trod_int Tryz.underlying3 g0
    obtain ⟨k, e1, _, w1⟩ := DataW.trod_string Tryz.underlying9 g1
    obtain ⟨t, e2, _, w2⟩ := DataW.trod_string Tryz.underlying9 g2
    obtain ⟨who, e3, _, w3⟩ := DataW.trod_int Tryz.underlying3 g3
    obtain ⟨time, e4, _, w4⟩ := DataW.trod_int Tryz.underlying3 g4
    simp at e0 e1 e2 e3 e4
    subst e0 e1 e2 e3 e4
    have q0 := hc 0 (by omega)
    have hsp : a.spot = none := by
      cases hs : a.spot with
      | none => rfl
      | some s => exfalso; simp [Addr.add, World.cell?, hs] at q0; split at q0<;>simp at q0
    have hlt : a.block < w.heap.size := by
      rw [show a.add 0 = a from rfl] at q0
      unfold World.cell? at q0
      cases hh : w.heap[a.block]? with
      | none => simp [hh] at q0
      | some ob => exact (Array.getElem?_eq_some_iff.1 hh).1
    refine ⟨⟨off, k, t, who, time⟩, ⟨i64_of w0, i64_of w3, i64_of w4, by simpa [maxLen] using w1, by simpa [maxLen] using w2⟩, hsp, hlt, ?_⟩
    intro j v hv
    have hj : j < 5 := (List.getElem?_eq_some_iff.1 hv).1
    have q := hc j hj
    have e : a.add j = ⟨a.block, a.off + j, none⟩ := by
      obtain ⟨b, o, s⟩ := a
      simp only at hsp
      subst hsp
      exact Addr.add_mid b o j
    rw [e] at q
    rw [q]
    exact hv
end Go.Proofs.YtaefjifcnoiplaaGreat.Items

/-
  Lists of rows, each with its list of items: how they lie, what the laws' to, sz, eq, mark and held functions of them do; the argument opened. No condition but that there are at most 1048576, and the length that every text has.
-/
namespace Go.Proofs.YtaefjifcnoiplaaGreat.Gen
open Go.ChangeShapes Go.WideShapes Go.ChangeAt Go.RowKit Go.Joins Go.Deep Base
open Items (It)
set_option linter.unusedVariables false
instance : Cel It where
  k := 5
  cs := It.cs
  len _ := rfl
  one x u hu := by simp [It.cs] at hu; rcases hu with rfl | rfl | rfl | rfl | rfl<;>rfl
structure RC where
  start : Int
  next : Int
  A : Option Addr
  cap : Nat
  its : List It
instance : Inhabited RC := ⟨⟨0, 0, none, 0, []⟩⟩
instance : Cel RC where
  k := 3
  cs x := [.int .i64 x.start, .int .i64 x.next, .slice x.A x.its.length x.cap]
  len _ := rfl
  one x u hu := by simp at hu; rcases hu with rfl | rfl | rfl<;>rfl
structure PR where
  start : Int
  next : Int
  its : List It
def RC.p (x : RC) : PR := ⟨x.start, x.next, x.its⟩
def RC.right (x : RC) : Prop := I64 x.start /\ I64 x.next /\ x.its.length <= 9223372036854775807 /\ ∀ y ∈ x.its, y.right
def EachR (w : World) (l : List RC) : Prop := ∀ x ∈ l, At w x.A x.its
theorem EachR.below {w w' : World} {l : List RC} (h : EachR w l) (hw : Below w.heap.size w w') : EachR w' l := fun x hx => (h x hx).below hw
def rowP (w : World) (x : RC) (S : Nat -> Prop) : Prop := Sub w x.A x.its S
theorem rowP_firm : Firm rowP := fun w w' x S T h k hd => Sub.offp h k hd
theorem rowP_each {S : Nat -> Prop} {w : World} {a : Option Addr} {l : List RC} (h : Own rowP w a l S) : EachR w l := h.each (fun x S hx => Sub.at hx)
theorem In.getRC {w : World} {b o : Nat} {l : List RC} (h : In w b o l) (i : Nat) (hi : i < l.length) :
    w.cell? ⟨b, o + i * 3, none⟩ = some (.int .i64 l[i].start) /\ w.cell? ⟨b, o + i * 3 + 1, none⟩ = some (.int .i64 l[i].next) /\ w.cell? ⟨b, o + i * 3 + 2, none⟩ = some (.slice l[i].A l[i].its.length l[i].cap) :=
  ⟨h.cell i hi (f := 0) rfl, h.cell i hi (f := 1) rfl, h.cell i hi (f := 2) rfl⟩
theorem infoRC : (Tryz.prog.info? 142).map (fun i => (i.zero, i.size, i.bytes)) = some (some (.agg #[.int .i64 0, .int .i64 0, .slice none 0 0]), 3, 40) := by kernel_rfl
def szRC (x : RC) : Nat := x.its.length + Items.tot x.its
set_option maxRecDepth 100000 in
set_option maxHeartbeats 1000000 in
theorem szRowS_any (A : Option Addr) (cap : Nat) (l : List RC) (hl : l.length <= 9223372036854775807) (hr : ∀ x ∈ l, x.right) (left : Int) (h0 : 0 <= left) (h1 : left <= 1048576) (w : World) (hA : At w A l) (hE : EachR w l) :
    Calls Tryz.prog 28 #[.slice A l.length cap, .int .i64 left] w fun e w' => (∃ r : Int, e = .returned (.int .i64 r) /\ (r < 0 ∨ (0 <= r /\ r = left - (l.length : Int) - (count szRC l : Int)))) /\ Below w.heap.size w w' := by
  have HA := hidP hA
  have Hr := hidP hr
  have HE := hidP hE
  clear hA hr hE
  by_cases h : left < (l.length : Int)
  . have g : left - (l.length : Int) < 0 := by omega
    go_enter Tryz.func28, Tryz.ntmps28
    go_wp2
    go_ret
    exact ⟨⟨-1, rfl, .inl (by omega)⟩, Below.refl _ _⟩
  . have g : ¬ left - (l.length : Int) < 0 := by omega
    go_enter Tryz.func28, Tryz.ntmps28
    go_wp2
    go_loopw [1, 5] (fun q i w' => ∃ (n : Nat) (z : Int), i = .int .i64 (n : Int) /\ q = .int .i64 z /\ n <= l.length /\ 0 <= z /\ z <= 1048576 /\ Hid (z = left - (l.length : Int) - (count szRC (l.take n) : Int)) /\ Below w.heap.size w w') (fun _ i _ => l.length - (intOf i).toNat)
    case atStart => exact ⟨0, _, rfl, rfl, by omega, by omega, by omega, by simp [Hid, count], Below.refl _ _⟩
    case round =>
      obtain ⟨n, z, rfl, rfl, hn, hz0, hz1, hz, hbl⟩ := hrel
      by_cases hlt : n < l.length
      . obtain ⟨b, o, rfl, hbs, hIn⟩ : ∃ b o, A = some ⟨b, o, none⟩ /\ b < w.heap.size /\ In w b o l := by
          rcases HA.out with h | h
          . subst h; simp at hlt
          . exact h
        obtain ⟨c0, c1, c2⟩ := (hIn.below hbs hbl).getRC n hlt
        have hms := hidP (Hr.out _ (List.getElem_mem hlt))
        have hat := hidP ((HE.out _ (List.getElem_mem hlt)).below hbl)
        have hsn := hidP (count_snoc szRC l n hlt)
        go_wp2_with fail
        refine (Items.szRow_at _ _ _ _ _ hms.out.2.2.1 (fun x hx => (hms.out.2.2.2 x hx).2.2.2) z hz0 hz1 _ hat.out).mono ?_
        rintro e w1 ⟨r, rfl, hr, g1⟩
        rcases hr with hr | ⟨hr0, hr1⟩
        . go_wp2
          go_ret
          exact ⟨⟨-1, rfl, .inl (by omega)⟩, via0 g1 hbl⟩
        . have hp : ¬ r < 0 := by omega
          have HR1 := hidP hr1
          clear hr1
          go_wp2
          have hz' := hz.out
          have hsn' := hsn.out
          have hr' := HR1.out
          exact ⟨⟨n + 1, r, by go_num, rfl, by omega, by omega, by omega, by show _ = _; rw [hsn', hr', hz']; simp only [szRC]; omega, via0 g1 hbl⟩, by simp [intOf]; omega⟩
      . have e : l.take n = l := List.take_of_length_le (by omega)
        go_wp2
        go_ret
        have hz' := hz.out
        rw [e] at hz'
        exact ⟨⟨z, rfl, .inr ⟨hz0, hz'⟩⟩, hbl⟩
set_option maxRecDepth 100000 in
set_option maxHeartbeats 1000000 in
theorem toRowS_any (A : Option Addr) (cap : Nat) (l : List RC) (hl : l.length <= 1048576) (hr : ∀ x ∈ l, x.its.length <= 1048576) (w : World) (hA : At w A l) (hE : EachR w l) :
    Calls Tryz.prog 41 #[.slice A l.length cap] w fun e w' => e = .returned (.slice (some ⟨w.heap.size, 0, none⟩) l.length l.length) /\ Below w.heap.size w w' /\ ∃ l', Grow rowP w' w.heap.size l.length l' /\ l'.map RC.p = l.map RC.p := by
  have HA := hidP hA
  have HE := hidP hE
  have Hr := hidP hr
  clear hA hE hr
  have hmk := make_els (P := Tryz.prog) Tryz.underlying44 infoRC (by omega) l.length hl
  go_enter Tryz.func41, Tryz.ntmps41
  go_wp2
  go_loopw [4] (fun i w' => ∃ (n : Nat) (pre : List RC), i = .int .i64 (n : Int) /\ n <= l.length /\ Below w.heap.size w w' /\ w.heap.size < w'.heap.size /\ Hid (pre.length = n) /\ Hid (Grow rowP w' w.heap.size l.length pre) /\ Hid (pre.map RC.p = (l.take n).map RC.p)) (fun i _ => l.length - (intOf i).toNat)
  case atStart => exact ⟨0, [], rfl, by omega, by repeat (first | exact Below.refl _ _ | assumption | refine via0 (by assumption) ?_ | refine Below.drew ?_ | refine alloc0 ?_ _), by simp, rfl, Grow.start (by simp) (made_there w _ _ _ _), by simp [Hid]⟩
  case round =>
    obtain ⟨n, pre, rfl, hn, hbl, hsz, hpl, hgr, hsame⟩ := hrel
    by_cases hlt : n < l.length
    . obtain ⟨b, o, rfl, hbs, hIn⟩ : ∃ b o, A = some ⟨b, o, none⟩ /\ b < w.heap.size /\ In w b o l := by
        rcases HA.out with h | h
        . subst h; simp at hlt
        . exact h
      obtain ⟨c0, c1, c2⟩ := (hIn.below hbs hbl).getRC n hlt
      have hms := Hr.out _ (List.getElem_mem hlt)
      have hat := hidP ((HE.out _ (List.getElem_mem hlt)).below hbl)
      obtain ⟨⟨v0, d0⟩, f0⟩ := there_at (f := 0) hgr.out.th hlt (by decide)
      obtain ⟨⟨v1, d1⟩, f1⟩ := there_at (f := 1) hgr.out.th hlt (by decide)
      obtain ⟨⟨v2, d2⟩, f2⟩ := there_at (f := 2) hgr.out.th hlt (by decide)
      simp only [Nat.zero_add, Nat.add_zero, show Cel.k RC = 3 from rfl] at d0 f0 d1 f1 d2 f2
      go_wp2_with (go_at_call 89; refine (Items.toRow_any _ _ _ _ _ hms _ hat.out).mono ?_; rintro e w1 ⟨bx, rfl, g1, hbx, hbx', hix, htx⟩; obtain ⟨k1, m1⟩ := bcell g1; have s1 := g1.size; have hix := hidP hix; have htx := hidP htx)
      have hpl' := hpl.out
      have hst := hgr.out.snoc rowP_firm (by omega) g1 (y := (⟨l[n].start, l[n].next, some ⟨bx, 0, none⟩, l[n].its.length, l[n].its⟩ : RC)) (S := fun x => x = bx) (.inr ⟨bx, 0, rfl, rfl, hbx', hix.out, htx.out⟩) (fun x hx => by subst hx; exact ⟨hbx, hbx'⟩)
      rw [hpl'] at hst
      refine ⟨⟨n + 1, _, by go_num, by omega, ?_, by simp; omega, ?_, hst, ?_⟩, by simp [intOf]; omega⟩
      . exact ((((via0 g1 hbl).setCell (Nat.le_refl _) _).setCell (Nat.le_refl _) _).setCell (Nat.le_refl _) _)
      . show _ = _; simp [hpl']
      . show _ = _
        rw [List.map_append, hsame.out, List.take_succ_eq_append_getElem hlt, List.map_append]
        rfl
    . have e : l.take n = l := List.take_of_length_le (by omega)
      go_wp2
      go_ret
      exact ⟨rfl, hbl, pre, hgr.out, by rw [hsame.out, e]⟩
set_option maxRecDepth 100000 in
set_option maxHeartbeats 1000000 in
theorem eqRowS_same (A A' : Option Addr) (cap cap' : Nat) (l l' : List RC) (hl : l.length <= 9223372036854775807) (hr : ∀ x ∈ l, x.its.length <= 9223372036854775807) (hsame : l'.map RC.p = l.map RC.p) (w : World) (hA : At w A l) (hE : EachR w l) (hA' : At w A' l') (hE' : EachR w l') :
    Calls Tryz.prog 60 #[.slice A l.length cap, .slice A' l.length cap'] w fun e w' => e = .returned (.bool true) /\ Below w.heap.size w w' := by
  have HA := hidP hA
  have HE := hidP hE
  have HA' := hidP hA'
  have HE' := hidP hE'
  have Hr := hidP hr
  have HS := hidP hsame
  have HLL : Hid (l'.length = l.length) := by have := congrArg List.length hsame; show _ = _; simpa using this
  clear hA hE hA' hE' hr hsame
  go_enter Tryz.func60, Tryz.ntmps60
  go_wp2
  go_loopw [5] (fun i w' => ∃ (n : Nat), i = .int .i64 (n : Int) /\ n <= l.length /\ Below w.heap.size w w') (fun i _ => l.length - (intOf i).toNat)
  case atStart => exact ⟨0, rfl, by omega, Below.refl _ _⟩
  case round =>
    obtain ⟨n, rfl, hn, hbl⟩ := hrel
    by_cases hlt : n < l.length
    . have hll := HLL.out
      obtain ⟨b, o, rfl, hbs, hin⟩ : ∃ b o, A = some ⟨b, o, none⟩ /\ b < w.heap.size /\ In w b o l := by
        rcases HA.out with h | h
        . subst h; simp at hlt
        . exact h
      obtain ⟨b', o', rfl, hbs', hin'⟩ : ∃ b o, A' = some ⟨b, o, none⟩ /\ b < w.heap.size /\ In w b o l' := by
        rcases HA'.out with h | h
        . subst h; simp at hll; omega
        . exact h
      have hp : (l'[n]'(by omega)).p = l[n].p := by
        have h1 : (l'.map RC.p)[n]'(by simp; omega) = (l.map RC.p)[n]'(by simpa using hlt) := by simp only [HS.out]
        simpa using h1
      obtain ⟨c0, c1, c2⟩ := (hin.below hbs hbl).getRC n hlt
      obtain ⟨d0, d1, d2⟩ := (hin'.below hbs' hbl).getRC n (by omega)
      have hat := HE.out _ (List.getElem_mem hlt)
      have hat' := HE'.out _ (List.getElem_mem (show n < l'.length by omega))
      have hms := Hr.out _ (List.getElem_mem hlt)
      generalize l'[n]'(by omega) = y at hp d0 d1 d2 hat'
      generalize l[n] = x at hp c0 c1 c2 hat hms
      obtain ⟨yst, yne, yA, yc, yi⟩ := y
      obtain ⟨st, ne, xA, xc, xi⟩ := x
      simp only [RC.p, PR.mk.injEq] at hp
      obtain ⟨rfl, rfl, rfl⟩ := hp
      simp only at c0 c1 c2 d0 d1 d2 hat hat' hms
      have Hat := hidP (hat.below hbl)
      have Hat' := hidP (hat'.below hbl)
      clear hat hat' hll
      have hb1 : b < wr.heap.size := Nat.lt_of_lt_of_le hbs hbl.size
      have hb2 : b' < wr.heap.size := Nat.lt_of_lt_of_le hbs' hbl.size
      have hi0 : (0 : Int) <= (n : Int) := by omega
      have hi1 : (n : Int) < (l.length : Int) := by omega
      go_wp2
      go_region_held3 (fun w' => w'.cell? ⟨b, o + n * 3, none⟩ = some (.int .i64 yst) /\ w'.cell? ⟨b, o + n * 3 + 1, none⟩ = some (.int .i64 yne) /\ w'.cell? ⟨b, o + n * 3 + 2, none⟩ = some (.slice xA yi.length xc) /\
          w'.cell? ⟨b', o' + n * 3, none⟩ = some (.int .i64 yst) /\ w'.cell? ⟨b', o' + n * 3 + 1, none⟩ = some (.int .i64 yne) /\ w'.cell? ⟨b', o' + n * 3 + 2, none⟩ = some (.slice yA yi.length yc) /\ wr.heap.size <= w'.heap.size)
        (first | (go_split_ands; refine ⟨?_, ?_, ?_, ?_, ?_, ?_, ?_⟩<;>first | assumption | exact (k1 _ _ hb1).trans (by assumption) | exact (k1 _ _ hb2).trans (by assumption) | exact s1 | (simp; done)) | go_keep)
        (first
          | (go_at_call 125; refine (Items.eqRow_same _ _ _ _ _ _ yi hms _ (Hat.out.below (Below.drew (Below.refl _ _))) (Hat'.out.below (Below.drew (Below.refl _ _)))).mono ?_; rintro e w1 ⟨rfl, g1⟩; obtain ⟨k1, m1⟩ := bcell g1; have s1 := g1.size))
      all_goals
        go_wp2
        exact ⟨⟨n + 1, by go_num, by omega, via0 g1 hbl.drew⟩, by simp [intOf]; omega⟩
    . go_wp2
      go_ret
      exact ⟨rfl, hbl⟩
def cR (x : RC) : Nat := 2 + x.its.length * 5
def mR (x : RC) (z : Int) : RC := ⟨z, z + 1, x.A, x.cap, Items.marks x.its.length (z + 2)⟩
set_option maxRecDepth 100000 in
theorem markItemS_none (A : Option Addr) (cap : Nat) (k : Int) (w : World) :
    Calls Tryz.prog 130 #[.slice A 0 cap, .int .i64 k] w fun e w' => e = .returned (.int .i64 k) /\ Below w.heap.size w w' := by
  go_enter Tryz.func130, Tryz.ntmps130
  go_wp2
  go_loopw [1, 5] (fun kk i w' => kk = .int .i64 k /\ i = .int .i64 0 /\ w' = w) (fun _ _ _ => 0)
  case atStart => exact ⟨rfl, rfl, rfl⟩
  case round =>
    obtain ⟨rfl, rfl, rfl⟩ := hrel
    go_wp2
    go_ret
    exact ⟨rfl, Below.refl _ _⟩
theorem mark_items (a : Option Addr) (cap : Nat) (l : List It) (S : Nat -> Prop) (k : Int) (hk : 1 <= k) (hk' : k <= 100000000) (hl : l.length <= 1048576) (w : World) (h : Sub w a l S) :
    Calls Tryz.prog 130 #[.slice a l.length cap, .int .i64 k] w fun e w' => e = .returned (.int .i64 (k + (l.length : Int) * 5)) /\ Offp S w w' /\ Sub w' a (Items.marks l.length k) S := by
  rcases h with rfl | ⟨b, o, rfl, hS, hb, hi, ht⟩
  . refine (markItemS_none a cap k w).mono ?_
    rintro e w' ⟨rfl, g⟩
    exact ⟨by simp, Offp.of_below g, .inl rfl⟩
  . refine (Items.markItemS_any b o cap l.length k hk hk' hl w hb ht).mono ?_
    rintro e w' ⟨rfl, ko, hin, hth⟩
    have ko' : Only b w w' := ⟨ko.os, ko.tape, ko.output, ko.size, ko.block⟩
    exact ⟨rfl, (Offp.of_only ko').mono (fun x e => e ▸ hS), .inr ⟨b, o, rfl, hS, Nat.lt_of_lt_of_le hb ko.size, hin, by rw [Items.marks_length]; exact hth⟩⟩
set_option maxRecDepth 100000 in
set_option maxHeartbeats 1000000 in
theorem markRowS_any (b o cap : Nat) (l : List RC) (fp : Nat -> Nat -> Prop) (k : Int) (hk : 1 <= k) (hk' : k <= 50000000) (hc : count cR l <= 50000000) (hl : l.length <= 1048576) (hs : ∀ x ∈ l, x.its.length <= 1048576) (w : World) (hO : OwnF rowP w b o l fp) :
    Calls Tryz.prog 66 #[.slice (some ⟨b, o, none⟩) l.length cap, .int .i64 k] w fun e w' => e = .returned (.int .i64 (k + (count cR l : Int))) /\ Offp (fun x => x = b ∨ ∃ i, fp i x) w w' /\ OwnF rowP w' b o (marked mR cR l k) fp := by
  have HO := hidP hO
  have Hs := hidP hs
  have Hc := hidP hc
  clear hO hs hc
  go_enter Tryz.func66, Tryz.ntmps66
  go_wp2
  go_loopw [1, 5] (fun kk i w' => ∃ (n : Nat) (z : Int), i = .int .i64 (n : Int) /\ kk = .int .i64 z /\ n <= l.length /\ 1 <= z /\ z <= 100000000 /\ Hid (z = k + (count cR (l.take n) : Int)) /\ Hid (Offp (fun x => x = b ∨ ∃ i, fp i x) w w') /\ Hid (OwnF rowP w' b o (half mR cR l k n) fp)) (fun _ i _ => l.length - (intOf i).toNat)
  case atStart => exact ⟨0, k, rfl, rfl, by omega, hk, by omega, by simp [Hid, count], Offp.refl _ _, by rw [half_zero]; exact HO.out⟩
  case round =>
    obtain ⟨n, z, rfl, rfl, hn, hz1, hz2, hz, hoff, hown⟩ := hrel
    by_cases hlt : n < l.length
    . have hhl := half_length mR cR l k n
      have hge := half_get mR cR l k n hlt (by omega)
      have hit := Hs.out _ (List.getElem_mem hlt)
      obtain ⟨c0, c1, c2⟩ := hown.out.lst.getRC n (by omega)
      have hth := hown.out.th
      rw [hhl] at hth
      obtain ⟨_, f0⟩ := there_at (f := 0) hth hlt (by decide)
      obtain ⟨_, f1⟩ := there_at (f := 1) hth hlt (by decide)
      simp only [Nat.add_zero, show Cel.k RC = 3 from rfl] at f0 f1
      rw [hge] at c0 c1 c2
      have hsu := half_succ mR cR l k n hlt
      rw [← hz.out] at hsu
      have hcn : count cR (l.take n) + cR l[n] <= 50000000 := by rw [← count_snoc cR l n hlt]; exact Nat.le_trans (count_le cR l (n + 1)) Hc.out
      have Hsn := hidP (count_snoc cR l n hlt)
      generalize hx : l[n] = x at c0 c1 c2 hit hsu hcn hge Hsn
      obtain ⟨st, ne, xA, xc, xi⟩ := x
      simp only at c0 c1 c2 hit
      have O1 := hown.out.set1 rowP_firm n (by omega) ⟨z, ne, xA, xc, xi⟩ 0 (by decide) (.int .i64 z) (by rw [hge]; rfl) (fun W S h => by rw [hge] at h; exact h)
      have O2 := O1.set1 rowP_firm n (by simp; omega) ⟨z, z + 1, xA, xc, xi⟩ 1 (by decide) (.int .i64 (z + 1)) (by rw [List.getElem_set_self]; rfl) (fun W S h => by rw [List.getElem_set_self] at h; exact h)
      simp only [Nat.add_zero, show Cel.k RC = 3 from rfl, List.set_set] at O1 O2
      have Hhl := hidP hhl
      have Hsu := hidP hsu
      have Hcn := hidP hcn
      have HO2 := hidP O2
      have hsub := O2.sub n (by simp; omega)
      rw [List.getElem_set_self] at hsub
      have Hsub := hidP hsub
      have hz' := hz.out
      have hzc : z + 2 <= 100000000 := by
        have h3 := Hcn.out; simp only [cR] at h3; omega
      clear hx hhl hsu hcn O1 O2 hsub hge hth hz'
      go_wp2_with fail
      refine (mark_items xA xc xi (fp n) _ (by omega) (by omega) hit _ Hsub.out).mono ?_
      rintro e w1 ⟨rfl, ko, hsb⟩
      have hlim : xi.length * 5 + 2 <= 50000000 := by have := Hcn.out; simp only [cR] at this; omega
      go_wp2
      have hz' := hz.out
      have hcs : Cel.cs (mR ⟨st, ne, xA, xc, xi⟩ z) = Cel.cs (⟨z, z + 1, xA, xc, xi⟩ : RC) := by
        show [Value.int .i64 z, .int .i64 (z + 1), .slice xA (Items.marks xi.length (z + 2)).length xc] = [.int .i64 z, .int .i64 (z + 1), .slice xA xi.length xc]
        rw [Items.marks_length]
      have hsb' : rowP w1 (mR ⟨st, ne, xA, xc, xi⟩ z) (fp n) := by
        have e : z + 1 + 1 = z + 2 := by omega
        rw [e] at hsb
        exact hsb
      have O3 := HO2.out.turn rowP_firm n (by rw [List.length_set]; have := Hhl.out; omega) (mR ⟨st, ne, xA, xc, xi⟩ z) (by rw [List.getElem_set_self]; exact hcs) ko hsb'
      rw [List.set_set, ← Hsu.out] at O3
      refine ⟨⟨n + 1, z + 1 + 1 + (xi.length : Int) * 5, by go_num, rfl, by omega, by omega, ?_, ?_, ?_, O3⟩, by simp [intOf]; omega⟩
      . have := Hcn.out; simp only [cR] at this; omega
      . show _ = _; rw [Hsn.out, hz']; simp only [cR]; omega
      . exact ((hoff.out.set (.inl rfl) _ _).set (.inl rfl) _ _).trans (ko.mono (fun x hx => .inr ⟨n, hx⟩))
    . obtain rfl : n = l.length := by omega
      go_wp2
      go_ret
      have e := hz.out
      rw [count_all cR l _ (Nat.le_refl _)] at e
      have hh := hown.out
      rw [half_all mR cR l k _ (Nat.le_refl _)] at hh
      subst e
      exact ⟨rfl, hoff.out, hh⟩
set_option maxRecDepth 100000 in
theorem openRC {H : Type} {enc : TypeId × Value -> H} {w : World} {base n : Nat} {spare : Nat -> Bool} {held : Bool} {a : Addr} {cs : List Value} {y : DataW H × List MemPlace}
    (h1 : w.cells? base a 3 = some cs) (h2 : DataW.trod enc Tryz.prog w base spare held n 125 cs = some y) :
    ∃ x : RC, (x.right /\ At w x.A x.its) /\ a.spot = none /\ a.block < w.heap.size /\ ∀ j v, (Cel.cs x)[j]? = some v -> w.cell? ⟨a.block, a.off + j, none⟩ = some v := by
  obtain ⟨_, hlen, hc⟩ := World.cells?_some h1
  match cs, hlen with
  | [c0, c1, c2], _ =>
    obtain ⟨m, hf⟩ := fields_at Tryz.underlying125 (by kernel_rfl) h2
    obtain ⟨y0, g0⟩ := hf 0 _ rfl _ rfl
    obtain ⟨y1, g1⟩ := hf 1 _ rfl _ rfl
    obtain ⟨y2, g2⟩ := hf 2 _ rfl _ rfl
    obtain ⟨st, e0, _, w0⟩ := DataW.trod_int Tryz.underlying3 g0
    obtain ⟨ne, e1, _, w1⟩ := DataW.trod_int Tryz.underlying3 g1
    simp at e0 e1
    subst e0 e1
    have q0 := hc 0 (by omega)
    have hsp : a.spot = none := by
      cases hs : a.spot with
      | none => rfl
      | some s => exfalso; simp [Addr.add, World.cell?, hs] at q0; split at q0<;>simp at q0
    have hlt : a.block < w.heap.size := by
      rw [show a.add 0 = a from rfl] at q0
      unfold World.cell? at q0
      cases hh : w.heap[a.block]? with
      | none => simp [hh] at q0
      | some ob => exact (Array.getElem?_eq_some_iff.1 hh).1
    obtain ⟨A, cap, l, rfl, hl, hR, hat⟩ : ∃ (A : Option Addr) (cap : Nat) (l : List It), c2 = .slice A l.length cap /\ l.length <= 9223372036854775807 /\ (∀ x ∈ l, x.right) /\ At w A l := by
      rcases open_slice Tryz.underlying123 g2 with ⟨e2, _⟩ | ⟨a, len, cap, m, n', D, Pl, e2, _, hl, hm, hmm, _, hx⟩
      . simp at e2
        subst e2
        exact ⟨none, 0, [], rfl, by simp, by simp, .inl rfl⟩
      . simp at e2
        subst e2
        have hle : len <= m := by rw [hmm]; split<;>omega
        rw [Items.cellsItem] at hx
        obtain ⟨X, hX⟩ := choose_lt (α := It) (p := fun i x => x.right /\ (a.add (i * 5)).spot = none /\ (a.add (i * 5)).block < w.heap.size /\ ∀ j v, (Cel.cs x)[j]? = some v -> w.cell? ⟨(a.add (i * 5)).block, (a.add (i * 5)).off + j, none⟩ = some v)
          (n := len) (fun i hi => by obtain ⟨cs', h1, h2⟩ := hx i (by omega); exact Items.item_of h1 h2)
        obtain ⟨l, rfl, hR, hat⟩ := at_of (α := It) (by decide) (R := It.right) hX
        exact ⟨some a, cap, l, rfl, by simp [maxLen] at hm ⊢; omega, hR, hat⟩
    refine ⟨⟨st, ne, A, cap, l⟩, ⟨⟨i64_of w0, i64_of w1, hl, hR⟩, hat⟩, hsp, hlt, ?_⟩
    intro j v hv
    have hj : j < 3 := (List.getElem?_eq_some_iff.1 hv).1
    have q := hc j hj
    have e : a.add j = ⟨a.block, a.off + j, none⟩ := by
      obtain ⟨b, o, s⟩ := a
      simp only at hsp
      subst hsp
      exact Addr.add_mid b o j
    rw [e] at q
    rw [q]
    exact hv
set_option maxRecDepth 100000 in
theorem openRowS {H : Type} {enc : TypeId × Value -> H} {W : World} {base n : Nat} {spare : Nat -> Bool} {held : Bool} {c : Value} {y : DataW H × List MemPlace}
    (g : DataW.trod enc Tryz.prog W base spare held n 27 [c] = some y) :
    ∃ (A : Option Addr) (cap : Nat) (l : List RC), c = .slice A l.length cap /\ l.length <= 9223372036854775807 /\ (∀ x ∈ l, x.right) /\ At W A l /\ EachR W l := by
  rcases open_slice Tryz.underlying27 g with ⟨e2, _⟩ | ⟨a, len, cap, m, n', D, Pl, e2, _, hl, hm, hmm, _, hx⟩
  . simp at e2
    subst e2
    exact ⟨none, 0, [], rfl, by simp, by simp, .inl rfl, by simp [EachR]⟩
  . simp at e2
    subst e2
    have hle : len <= m := by rw [hmm]; split<;>omega
    rw [Items.cellsRow] at hx
    obtain ⟨X, hX⟩ := choose_lt (α := RC) (p := fun i x => (x.right /\ At W x.A x.its) /\ (a.add (i * 3)).spot = none /\ (a.add (i * 3)).block < W.heap.size /\ ∀ j v, (Cel.cs x)[j]? = some v -> W.cell? ⟨(a.add (i * 3)).block, (a.add (i * 3)).off + j, none⟩ = some v)
      (n := len) (fun i hi => by obtain ⟨cs', h1, h2⟩ := hx i (by omega); exact openRC h1 h2)
    obtain ⟨l, rfl, hR, hat⟩ := at_of (α := RC) (by decide) (R := fun x => x.right /\ At W x.A x.its) hX
    exact ⟨some a, cap, l, rfl, by simp [maxLen] at hm ⊢; omega, fun x hx => (hR x hx).1, hat, fun x hx => (hR x hx).2⟩
end Go.Proofs.YtaefjifcnoiplaaGreat.Gen

/-
  Lists of makers in blocks of their own: made by the laws' toMakerS, marked and held. No condition but that there are at most 1048576.
-/
namespace Go.Proofs.YtaefjifcnoiplaaGreat.Gen
open Go.ChangeShapes Go.WideShapes Go.ChangeAt Go.RowKit Go.Joins Go.Deep Base
set_option linter.unusedVariables false
set_option linter.unusedSimpArgs false
def makP (w : World) (x : MC) (S : Nat -> Prop) : Prop := Sub w x.A x.ms S
theorem makP_firm : Firm makP := fun w w' x S T h k hd => Sub.offp h k hd
theorem makP_each {S : Nat -> Prop} {w : World} {a : Option Addr} {l : List MC} (h : Own makP w a l S) : Each w l := h.each (fun x S hx => Sub.at hx)
set_option maxRecDepth 100000 in
set_option maxHeartbeats 1000000 in
theorem toMakerS_grow (A : Option Addr) (cap : Nat) (l : List MC) (hl : l.length <= 1048576) (hr : ∀ x ∈ l, x.ms.length <= 1048576) (w : World) (hA : At w A l) (hE : Each w l) :
    Calls Tryz.prog 42 #[.slice A l.length cap] w fun e w' => e = .returned (.slice (some ⟨w.heap.size, 0, none⟩) l.length l.length) /\ Below w.heap.size w w' /\ ∃ l', Grow makP w' w.heap.size l.length l' /\ l'.map MC.p = l.map MC.p := by
  have HA := hidP hA
  have HE := hidP hE
  have Hr := hidP hr
  clear hA hE hr
  have hmk := make_els (P := Tryz.prog) Tryz.underlying45 infoMC (by omega) l.length hl
  go_enter Tryz.func42, Tryz.ntmps42
  go_wp2
  go_loopw [4] (fun i w' => ∃ (n : Nat) (pre : List MC), i = .int .i64 (n : Int) /\ n <= l.length /\ Below w.heap.size w w' /\ w.heap.size < w'.heap.size /\ Hid (pre.length = n) /\ Hid (Grow makP w' w.heap.size l.length pre) /\ Hid (pre.map MC.p = (l.take n).map MC.p)) (fun i _ => l.length - (intOf i).toNat)
  case atStart => exact ⟨0, [], rfl, by omega, by repeat (first | exact Below.refl _ _ | assumption | refine via0 (by assumption) ?_ | refine Below.drew ?_ | refine alloc0 ?_ _), by simp, rfl, Grow.start (by simp) (made_there w _ _ _ _), by simp [Hid]⟩
  case round =>
    obtain ⟨n, pre, rfl, hn, hbl, hsz, hpl, hgr, hsame⟩ := hrel
    by_cases hlt : n < l.length
    . obtain ⟨b, o, rfl, hbs, hIn⟩ : ∃ b o, A = some ⟨b, o, none⟩ /\ b < w.heap.size /\ In w b o l := by
        rcases HA.out with h | h
        . subst h; simp at hlt
        . exact h
      obtain ⟨c0, c1, c2, c3, c4⟩ := (hIn.below hbs hbl).getMC n hlt
      have hms := Hr.out _ (List.getElem_mem hlt)
      have hat := hidP ((HE.out _ (List.getElem_mem hlt)).below hbl)
      obtain ⟨⟨v0, d0⟩, f0⟩ := there_at (f := 0) hgr.out.th hlt (by decide)
      obtain ⟨⟨v1, d1⟩, f1⟩ := there_at (f := 1) hgr.out.th hlt (by decide)
      obtain ⟨⟨v2, d2⟩, f2⟩ := there_at (f := 2) hgr.out.th hlt (by decide)
      obtain ⟨⟨v3, d3⟩, f3⟩ := there_at (f := 3) hgr.out.th hlt (by decide)
      obtain ⟨⟨v4, d4⟩, f4⟩ := there_at (f := 4) hgr.out.th hlt (by decide)
      simp only [Nat.zero_add, Nat.add_zero, show Cel.k MC = 5 from rfl] at d0 f0 d1 f1 d2 f2 d3 f3 d4 f4
      go_wp2_with (go_at_call 90; refine (toMaker_any _ _ _ _ _ _ _ hms _ hat.out).mono ?_; rintro e w1 ⟨bx, rfl, g1, hbx, hbx', hix, htx⟩; obtain ⟨k1, m1⟩ := bcell g1; have s1 := g1.size; have hix := hidP hix; have htx := hidP htx)
      have hpl' := hpl.out
      have hst := hgr.out.snoc makP_firm (by omega) g1 (y := (⟨l[n].row, l[n].who, l[n].epoch, l[n].last, some ⟨bx, 0, none⟩, l[n].ms.length, l[n].ms⟩ : MC)) (S := fun x => x = bx) (.inr ⟨bx, 0, rfl, rfl, hbx', hix.out, htx.out⟩) (fun x hx => by subst hx; exact ⟨hbx, hbx'⟩)
      rw [hpl'] at hst
      refine ⟨⟨n + 1, _, by go_num, by omega, ?_, by simp; omega, ?_, hst, ?_⟩, by simp [intOf]; omega⟩
      . exact ((((((via0 g1 hbl).setCell (Nat.le_refl _) _).setCell (Nat.le_refl _) _).setCell (Nat.le_refl _) _).setCell (Nat.le_refl _) _).setCell (Nat.le_refl _) _)
      . show _ = _; simp [hpl']
      . show _ = _
        rw [List.map_append, hsame.out, List.take_succ_eq_append_getElem hlt, List.map_append]
        rfl
    . have e : l.take n = l := List.take_of_length_le (by omega)
      go_wp2
      go_ret
      exact ⟨rfl, hbl, pre, hgr.out, by rw [hsame.out, e]⟩
def cM (x : MC) : Nat := 4 + x.ms.length * 2
def mM (x : MC) (z : Int) : MC := ⟨z, z + 1, z + 2, z + 3, x.A, x.cap, marksMk x.ms.length (z + 4)⟩
theorem mark_marks (a : Option Addr) (cap : Nat) (l : List Mk) (S : Nat -> Prop) (k : Int) (hk : 1 <= k) (hk' : k <= 100000000) (hl : l.length <= 2000000) (w : World) (h : Sub w a l S) :
    Calls Tryz.prog 131 #[.slice a l.length cap, .int .i64 k] w fun e w' => e = .returned (.int .i64 (k + (l.length : Int) * 2)) /\ Offp S w w' /\ Sub w' a (marksMk l.length k) S := by
  rcases h with rfl | ⟨b, o, rfl, hS, hb, hi, ht⟩
  . refine (markMkS_none a cap k w).mono ?_
    rintro e w' ⟨rfl, rfl⟩
    exact ⟨by simp, Offp.refl _ _, .inl rfl⟩
  . refine (markMkS_any b o cap l.length k hk hk' hl w hb ht).mono ?_
    rintro e w' ⟨rfl, ko, hin, hth⟩
    exact ⟨rfl, (Offp.of_only ko).mono (fun x e => e ▸ hS), .inr ⟨b, o, rfl, hS, Nat.lt_of_lt_of_le hb ko.size, hin, by rw [marksMk_length]; exact hth⟩⟩
set_option maxRecDepth 100000 in
set_option maxHeartbeats 1000000 in
theorem markMakerS_own (b o cap : Nat) (l : List MC) (fp : Nat -> Nat -> Prop) (k : Int) (hk : 1 <= k) (hk' : k <= 50000000) (hc : count cM l <= 50000000) (hl : l.length <= 1048576) (hs : ∀ x ∈ l, x.ms.length <= 1048576) (w : World) (hO : OwnF makP w b o l fp) :
    Calls Tryz.prog 67 #[.slice (some ⟨b, o, none⟩) l.length cap, .int .i64 k] w fun e w' => e = .returned (.int .i64 (k + (count cM l : Int))) /\ Offp (fun x => x = b ∨ ∃ i, fp i x) w w' /\ OwnF makP w' b o (marked mM cM l k) fp := by
  have HO := hidP hO
  have Hs := hidP hs
  have Hc := hidP hc
  clear hO hs hc
  go_enter Tryz.func67, Tryz.ntmps67
  go_wp2
  go_loopw [1, 5] (fun kk i w' => ∃ (n : Nat) (z : Int), i = .int .i64 (n : Int) /\ kk = .int .i64 z /\ n <= l.length /\ 1 <= z /\ z <= 100000000 /\ Hid (z = k + (count cM (l.take n) : Int)) /\ Hid (Offp (fun x => x = b ∨ ∃ i, fp i x) w w') /\ Hid (OwnF makP w' b o (half mM cM l k n) fp)) (fun _ i _ => l.length - (intOf i).toNat)
  case atStart => exact ⟨0, k, rfl, rfl, by omega, hk, by omega, by simp [Hid, count], Offp.refl _ _, by rw [half_zero]; exact HO.out⟩
  case round =>
    obtain ⟨n, z, rfl, rfl, hn, hz1, hz2, hz, hoff, hown⟩ := hrel
    by_cases hlt : n < l.length
    . have hhl := half_length mM cM l k n
      have hge := half_get mM cM l k n hlt (by omega)
      have hit := Hs.out _ (List.getElem_mem hlt)
      obtain ⟨c0, c1, c2, c3, c4⟩ := hown.out.lst.getMC n (by omega)
      have hth := hown.out.th
      rw [hhl] at hth
      obtain ⟨_, f0⟩ := there_at (f := 0) hth hlt (by decide)
      obtain ⟨_, f1⟩ := there_at (f := 1) hth hlt (by decide)
      obtain ⟨_, f2⟩ := there_at (f := 2) hth hlt (by decide)
      obtain ⟨_, f3⟩ := there_at (f := 3) hth hlt (by decide)
      simp only [Nat.add_zero, show Cel.k MC = 5 from rfl] at f0 f1 f2 f3
      rw [hge] at c0 c1 c2 c3 c4
      have hsu := half_succ mM cM l k n hlt
      rw [← hz.out] at hsu
      have hcn : count cM (l.take n) + cM l[n] <= 50000000 := by rw [← count_snoc cM l n hlt]; exact Nat.le_trans (count_le cM l (n + 1)) Hc.out
      have Hsn := hidP (count_snoc cM l n hlt)
      generalize hx : l[n] = x at c0 c1 c2 c3 c4 hit hsu hcn hge Hsn
      obtain ⟨xr, xw, xe, xl, xA, xc, xi⟩ := x
      simp only at c0 c1 c2 c3 c4 hit
      have O1 := hown.out.set1 makP_firm n (by omega) ⟨z, xw, xe, xl, xA, xc, xi⟩ 0 (by decide) (.int .i64 z) (by rw [hge]; rfl) (fun W S h => by rw [hge] at h; exact h)
      have O2 := O1.set1 makP_firm n (by simp; omega) ⟨z, z + 1, xe, xl, xA, xc, xi⟩ 1 (by decide) (.int .i64 (z + 1)) (by rw [List.getElem_set_self]; rfl) (fun W S h => by rw [List.getElem_set_self] at h; exact h)
      have O3 := O2.set1 makP_firm n (by simp; omega) ⟨z, z + 1, z + 1 + 1, xl, xA, xc, xi⟩ 2 (by decide) (.int .i64 (z + 1 + 1)) (by rw [List.getElem_set_self]; rfl) (fun W S h => by rw [List.getElem_set_self] at h; exact h)
      have O4 := O3.set1 makP_firm n (by simp; omega) ⟨z, z + 1, z + 1 + 1, z + 1 + 1 + 1, xA, xc, xi⟩ 3 (by decide) (.int .i64 (z + 1 + 1 + 1)) (by rw [List.getElem_set_self]; rfl) (fun W S h => by rw [List.getElem_set_self] at h; exact h)
      simp only [Nat.add_zero, show Cel.k MC = 5 from rfl, List.set_set] at O4
      have Hhl := hidP hhl
      have Hsu := hidP hsu
      have Hcn := hidP hcn
      have HO2 := hidP O4
      have hsub := O4.sub n (by simp; omega)
      rw [List.getElem_set_self] at hsub
      have Hsub := hidP hsub
      have hz' := hz.out
      have hzc : z + 4 <= 100000000 := by
        have h3 := Hcn.out; simp only [cM] at h3; omega
      clear hx hhl hsu hcn O1 O2 O3 O4 hsub hge hth hz'
      go_wp2_with fail
      refine (mark_marks xA xc xi (fp n) _ (by omega) (by omega) (by omega) _ Hsub.out).mono ?_
      rintro e w1 ⟨rfl, ko, hsb⟩
      have hlim : xi.length * 2 + 4 <= 50000000 := by have := Hcn.out; simp only [cM] at this; omega
      go_wp2
      have hz' := hz.out
      have e2 : z + 1 + 1 = z + 2 := by omega
      have e3 : z + 1 + 1 + 1 = z + 3 := by omega
      have e4 : z + 1 + 1 + 1 + 1 = z + 4 := by omega
      have hcs : Cel.cs (mM ⟨xr, xw, xe, xl, xA, xc, xi⟩ z) = Cel.cs (⟨z, z + 1, z + 1 + 1, z + 1 + 1 + 1, xA, xc, xi⟩ : MC) := by
        simp only [Cel.cs, mM, marksMk_length, e2, show z + 2 + 1 = z + 3 by omega]
      have hsb' : makP w1 (mM ⟨xr, xw, xe, xl, xA, xc, xi⟩ z) (fp n) := by
        rw [e4] at hsb
        exact hsb
      have O3 := HO2.out.turn makP_firm n (by rw [List.length_set]; have := Hhl.out; omega) (mM ⟨xr, xw, xe, xl, xA, xc, xi⟩ z) (by rw [List.getElem_set_self]; exact hcs) ko hsb'
      rw [List.set_set, ← Hsu.out] at O3
      refine ⟨⟨n + 1, z + 1 + 1 + 1 + 1 + (xi.length : Int) * 2, by go_num, rfl, by omega, by omega, ?_, ?_, ?_, O3⟩, by simp [intOf]; omega⟩
      . have := Hcn.out; simp only [cM] at this; omega
      . show _ = _; rw [Hsn.out, hz']; simp only [cM]; omega
      . exact ((((hoff.out.set (.inl rfl) _ _).set (.inl rfl) _ _).set (.inl rfl) _ _).set (.inl rfl) _ _).trans (ko.mono (fun x hx => .inr ⟨n, hx⟩))
    . obtain rfl : n = l.length := by omega
      go_wp2
      go_ret
      have e := hz.out
      rw [count_all cM l _ (Nat.le_refl _)] at e
      have hh := hown.out
      rw [half_all mM cM l k _ (Nat.le_refl _)] at hh
      subst e
      exact ⟨rfl, hoff.out, hh⟩
end Go.Proofs.YtaefjifcnoiplaaGreat.Gen

/-
  Logs: what the laws' sz, to and eq functions of them do; a log opened. No condition but that there are at most 1048576 entries, and the length that every text has.
-/
namespace Go.Proofs.YtaefjifcnoiplaaGreat.Gen
open Go.ChangeShapes Go.WideShapes Go.ChangeAt Go.RowKit Go.Joins Go.Deep Base
set_option linter.unusedVariables false
theorem At.hid {α : Type} [Cel α] {w : World} {A : Option Addr} {l : List α} (hA : At w A l) : Hid (∀ W : World, Below w.heap.size w W -> At W A l) := fun W hW => hA.below hW
theorem szLog_any (base bt : Int) (A : Option Addr) (cap : Nat) (l : List En) (hl : l.length <= 9223372036854775807) (hr : ∀ x ∈ l, x.fit) (left : Int) (h0 : 0 <= left) (h1 : left <= 1048576) (w : World) (hA : At w A l) :
    Calls Tryz.prog 14 #[.agg #[.int .i64 base, .int .i64 bt, .slice A l.length cap], .int .i64 left] w fun e w' => (∃ r : Int, e = .returned (.int .i64 r) /\ (r < 0 ∨ (0 <= r /\ r = left - (l.length : Int) - (count szEn l : Int)))) /\ Below w.heap.size w w' := by
  have HA := hA.hid
  have Hr := hidP hr
  clear hA hr
  go_enter Tryz.func14, Tryz.ntmps14
  go_wp2_with fail
  refine (szEntryS_any A cap l hl Hr.out left h0 h1 _ (HA.out _ (by repeat (first | exact Below.refl _ _ | assumption | refine via0 (by assumption) ?_ | refine Below.drew ?_ | refine alloc0 ?_ _)))).mono ?_
  rintro e w1 ⟨⟨r, rfl, hr⟩, g1⟩
  have HR := hidP hr
  have B1 : Below w.heap.size w w1 := by repeat (first | exact Below.refl _ _ | assumption | refine via0 (by assumption) ?_ | refine Below.drew ?_ | refine alloc0 ?_ _)
  clear hr
  by_cases hn : r < 0
  . go_wp2
    go_ret
    exact ⟨⟨-1, rfl, .inl (by omega)⟩, B1⟩
  . go_wp2
    go_ret
    exact ⟨⟨r, rfl, HR.out⟩, B1⟩
set_option maxRecDepth 100000 in
theorem toLog_any (base bt : Int) (A : Option Addr) (cap : Nat) (l : List En) (hl : l.length <= 1048576) (w : World) (hA : At w A l) :
    Calls Tryz.prog 18 #[.agg #[.int .i64 base, .int .i64 bt, .slice A l.length cap]] w
      fun e w' => ∃ b, e = .returned (.agg #[.int .i64 base, .int .i64 bt, .slice (some ⟨b, 0, none⟩) l.length l.length]) /\ Below w.heap.size w w' /\ w.heap.size <= b /\ b < w'.heap.size /\ In w' b 0 l /\ w'.there b 0 (l.length * 9) := by
  have HA := hA.hid
  clear hA
  go_enter Tryz.func18, Tryz.ntmps18
  go_wp2_with (go_at_call 40; refine (toEntryS_any A cap l hl _ (HA.out _ ?_)).mono ?_; (repeat (first | exact Below.refl _ _ | assumption | refine via0 (by assumption) ?_ | refine Below.drew ?_ | refine alloc0 ?_ _)); rintro e w1 ⟨rfl, g1, s1, i1, t1⟩; obtain ⟨k1, m1⟩ := bcell g1)
  have i2 : In w1 (w.heap.size + 1 + 1 + 1) 0 l := by simpa using i1
  have t2 : w1.there (w.heap.size + 1 + 1 + 1) 0 (l.length * 9) := by simpa using t1
  have s2 : w.heap.size + 1 + 1 + 1 < w1.heap.size := by simpa using s1
  have g2 : Below w.heap.size w w1 := via0 g1 (by repeat (first | exact Below.refl _ _ | assumption | refine via0 (by assumption) ?_ | refine Below.drew ?_ | refine alloc0 ?_ _))
  refine bodyPost_ret (v := .agg #[.int .i64 base, .int .i64 bt, .slice (some ⟨w.heap.size + 1 + 1 + 1, 0, none⟩) l.length l.length]) (by simp [results, Tryz.results18, go_sem, k1]) rfl ⟨w.heap.size + 1 + 1 + 1, rfl, ?_, by omega, by simp; omega, ?_, ?_⟩
  . exact bl_set (bl_set (bl_set (bl_set (g2) (by omega) _) (by omega) _) (by omega) _) (by omega) _
  . exact In.set (In.set (In.set (In.set (i2) _ _ (by simp)) _ _ (by simp)) _ _ (by simp)) _ _ (by simp)
  . exact there_set (there_set (there_set (there_set (t2) _ _ _) _ _ _) _ _ _) _ _ _
theorem eqLog_same (base bt : Int) (A A' : Option Addr) (cap cap' : Nat) (l : List En) (hl : l.length <= 9223372036854775807) (w : World) (hA : At w A l) (hA' : At w A' l) :
    Calls Tryz.prog 23 #[.agg #[.int .i64 base, .int .i64 bt, .slice A l.length cap], .agg #[.int .i64 base, .int .i64 bt, .slice A' l.length cap']] w fun e w' => e = .returned (.bool true) /\ Below w.heap.size w w' := by
  have HA := hA.hid
  have HA' := hA'.hid
  clear hA hA'
  go_enter Tryz.func23, Tryz.ntmps23
  go_wp2_with (go_at_call 59; refine (eqEntryS_same A A' cap cap' l hl _ (HA.out _ ?_) (HA'.out _ ?_)).mono ?_; (repeat (first | exact Below.refl _ _ | assumption | refine via0 (by assumption) ?_ | refine Below.drew ?_ | refine alloc0 ?_ _)); (repeat (first | exact Below.refl _ _ | assumption | refine via0 (by assumption) ?_ | refine Below.drew ?_ | refine alloc0 ?_ _)); rintro e w1 ⟨rfl, g1⟩)
  go_ret
  refine ⟨rfl, ?_⟩
  repeat (first | exact Below.refl _ _ | assumption | refine via0 (by assumption) ?_ | refine Below.drew ?_ | refine alloc0 ?_ _)
end Go.Proofs.YtaefjifcnoiplaaGreat.Gen

/-
  Logs and lists of entries in memory of their own: marked, and held to be so marked. No condition but that there are at most 3000000 entries.
-/
namespace Go.Proofs.YtaefjifcnoiplaaGreat.Gen
open Go.ChangeShapes Go.WideShapes Go.ChangeAt Go.RowKit Go.Joins Go.Deep Base
set_option linter.unusedVariables false
set_option maxRecDepth 100000 in
theorem markNone_any (a : Option Addr) (cap : Nat) (k : Int) (w : World) :
    Calls Tryz.prog 65 #[.slice a 0 cap, .int .i64 k] w fun e w' => e = .returned (.int .i64 k) /\ w' = w := by
  go_enter Tryz.func65, Tryz.ntmps65
  go_wp2
  go_loopw [1, 5] (fun kk i w' => kk = .int .i64 k /\ i = .int .i64 0 /\ w' = w) (fun _ _ _ => 0)
  case atStart => exact ⟨rfl, rfl, rfl⟩
  case round =>
    obtain ⟨rfl, rfl, rfl⟩ := hrel
    go_wp2
    go_ret
    exact ⟨rfl, rfl⟩
theorem markE_any (a : Option Addr) (cap : Nat) (l : List En) (hl : l.length <= 3000000) (k : Int) (hk : 1 <= k) (hk' : k <= 100000000) (F : List Nat) (w : World) (hs : Sl w a l F) :
    Calls Tryz.prog 65 #[.slice a l.length cap, .int .i64 k] w fun e w' => e = .returned (.int .i64 (k + (l.length : Int) * 9)) /\ Off F w w' /\ Sl w' a (marksEn l.length k) F := by
  rcases hs with ⟨rfl, rfl⟩ | ⟨b, o, rfl, rfl, hb, hi, ht⟩
  . refine (markNone_any a cap k w).mono ?_
    rintro e w' ⟨rfl, rfl⟩
    exact ⟨by simp, Off.refl _ _, .inl ⟨rfl, rfl⟩⟩
  . refine (markEntryS_any b o cap l.length k hk hk' hl w hb ht).mono ?_
    rintro e w' ⟨rfl, ho, hi', ht'⟩
    exact ⟨rfl, Off.of_only ho, .inr ⟨b, o, rfl, rfl, Nat.lt_of_lt_of_le hb ho.size, hi', by rw [marksEn_length]; exact ht'⟩⟩
theorem markLog_any (base bt : Int) (a : Option Addr) (cap : Nat) (l : List En) (hl : l.length <= 3000000) (k : Int) (hk : 1 <= k) (hk' : k <= 100000000) (F : List Nat) (w : World) (hs : Sl w a l F) :
    Calls Tryz.prog 25 #[.agg #[.int .i64 base, .int .i64 bt, .slice a l.length cap], .int .i64 k] w fun e w' => e = .returned (.int .i64 (k + (l.length : Int) * 9)) /\ Off F w w' /\ Sl w' a (marksEn l.length k) F := by
  have HC : Hid (∀ ob : Obj, Calls Tryz.prog 65 #[.slice a l.length cap, .int .i64 k] (w.alloc ob) fun e w' => e = .returned (.int .i64 (k + (l.length : Int) * 9)) /\ Off F (w.alloc ob) w' /\ Sl w' a (marksEn l.length k) F) := fun ob => markE_any a cap l hl k hk hk' F _ (hs.below (alloc0 (Below.refl _ _) ob))
  clear hs
  generalize hz : k + (l.length : Int) * 9 = z at HC ⊢
  clear hz
  go_enter Tryz.func25, Tryz.ntmps25
  go_wp2_with fail
  refine (HC.out _).mono ?_
  rintro e w1 ⟨rfl, o1, s1⟩
  have O1 := hidP o1
  have S1 := hidP s1
  clear o1 s1
  go_wp2
  go_ret
  exact ⟨rfl, by simpa using (Off.of_below (alloc0 (Below.refl _ _) _)).trans O1.out, S1.out⟩
end Go.Proofs.YtaefjifcnoiplaaGreat.Gen

/-
  MakerOk of the specification and of the program at this seat: they answer alike. No condition but that there are at most 1048576 marks.
-/
namespace Go.Proofs.YtaefjifcnoiplaaGreat.Gen
open Go.ChangeShapes Go.WideShapes Go.ChangeAt Go.RowKit Go.Joins Go.Deep Base
set_option linter.unusedVariables false
set_option linter.unusedSimpArgs false
def offAt (l : List Mk) (j : Nat) : Int := (l.getD j ⟨0, 0⟩).off
def seqAt (last : Int) (l : List Mk) (j : Nat) : Int := IntKind.i64.wrap (last - IntKind.i64.wrap (IntKind.i64.wrap ((l.length : Int) - 1) - (j : Int)))
def rightAt (last : Int) (l : List Mk) (j : Nat) : Bool := inB (offAt l j) 0 100000 && decide ((l.getD j ⟨0, 0⟩).seq = seqAt last l j) && (decide (j = 0) || decide (offAt l (j - 1) < offAt l j))
def rightTo (last : Int) (l : List Mk) (n : Nat) : Bool := (List.range n).all (rightAt last l)
theorem rightTo_succ (last : Int) (l : List Mk) (n : Nat) : rightTo last l (n + 1) = (rightTo last l n && rightAt last l n) := by simp [rightTo, List.range_succ]
theorem rightAll_no {last : Int} {l : List Mk} {n : Nat} (h : n < l.length) (hr : rightAt last l n = false) : rightTo last l l.length = false := by
  unfold rightTo
  rw [List.all_eq_false]
  exact ⟨n, by simpa using h, by simp [hr]⟩
theorem offAt_is {l : List Mk} {n : Nat} (h : n < l.length) : offAt l n = l[n].off := by simp [offAt, h]
theorem rightAt_is {last : Int} {l : List Mk} {n : Nat} (h : n < l.length) : rightAt last l n = (inB l[n].off 0 100000 && decide (l[n].seq = seqAt last l n) && (decide (n = 0) || decide (offAt l (n - 1) < l[n].off))) := by
  simp [rightAt, offAt_is h, h]
theorem prev_is {l : List Mk} {n p : Nat} (h : p < l.length) (e : n = p + 1) : offAt l (n - 1) = l[p].off := by subst e; simpa using offAt_is h
theorem seqAt_is {last : Int} (h0 : -1 <= last) (h1 : last <= 100000) {l : List Mk} (hl : l.length <= 1048576) {n : Nat} (hn : n < l.length) : seqAt last l n = last - l.length + 1 + n := by
  unfold seqAt
  have a : IntKind.i64.wrap ((l.length : Int) - 1) = (l.length : Int) - 1 := by rw [IntKind.wrap_i64]; omega
  have b : IntKind.i64.wrap ((l.length : Int) - 1 - (n : Int)) = (l.length : Int) - 1 - n := by rw [IntKind.wrap_i64]; omega
  rw [a, b, IntKind.wrap_i64]; omega
def okB (row who epoch last window : Int) (l : List Mk) : Bool :=
  inB row 0 3 && inB who 0 3 && inB epoch 0 100000 && inB last (-1) 100000 && decide ((l.length : Int) <= window) && decide ((l.length : Int) <= last + 1) && (decide ((l.length : Int) = 0) == decide (last = -1)) && rightTo last l l.length
theorem okB_no {row who epoch last window : Int} {l : List Mk} (h : rightTo last l l.length = false) : okB row who epoch last window l = false := by simp [okB, h]
theorem okB_yes {row who epoch last window : Int} {l : List Mk} (hl : l.length <= 1048576) (h : rightTo last l l.length = true) (h1 : ¬ (l.length : Int) > window) (h2 : ¬ (l.length : Int) > wrap64 (last + 1)) (h3 : ¬ (last >= 0 /\ (l.length : Int) = 0)) :
    okB row who epoch last window l = (inB row 0 3 && (inB who 0 3 && (inB epoch 0 100000 && inB last (-1) 100000))) := by
  cases hL : inB last (-1) 100000
  . simp [okB, hL]
  . have hL' : -1 <= last /\ last <= 100000 := by simpa [inB] using hL
    have e : wrap64 (last + 1) = last + 1 := by simp only [wrap64]; omega
    rw [e] at h2
    have a1 : decide ((l.length : Int) <= window) = true := decide_eq_true (by omega)
    have a2 : decide ((l.length : Int) <= last + 1) = true := decide_eq_true (by omega)
    have a3 : (decide ((l.length : Int) = 0) == decide (last = -1)) = true := by
      by_cases hz : last = -1
      . rw [decide_eq_true hz, decide_eq_true (by omega)]; rfl
      . rw [decide_eq_false hz, decide_eq_false (by omega)]; rfl
    unfold okB
    rw [hL, a1, a2, a3, h]
    simp [Bool.and_assoc]
theorem okB_two {row who epoch last window : Int} {l : List Mk} (hl : l.length <= 1048576) (h2 : (l.length : Int) > wrap64 (last + 1)) : okB row who epoch last window l = false := by
  cases hL : inB last (-1) 100000
  . simp [okB, hL]
  . have hL' : -1 <= last /\ last <= 100000 := by simpa [inB] using hL
    have e : wrap64 (last + 1) = last + 1 := by simp only [wrap64]; omega
    rw [e] at h2
    have a2 : decide ((l.length : Int) <= last + 1) = false := decide_eq_false (by omega)
    unfold okB
    rw [a2]; simp
theorem okB_three {row who epoch last window : Int} {l : List Mk} (h3 : last >= 0) (h4 : (l.length : Int) = 0) : okB row who epoch last window l = false := by
  have a : (decide ((l.length : Int) = 0) == decide (last = -1)) = false := by rw [decide_eq_true h4, decide_eq_false (by omega)]; rfl
  unfold okB
  rw [a]; simp
theorem beqs (a b c d : Int) : ((a == b) = (c == d)) ↔ (decide (a = b) == decide (c = d)) = true := by
  have e1 : (a == b) = decide (a = b) := rfl
  have e2 : (c == d) = decide (c = d) := rfl
  rw [e1, e2]; simp
set_option maxRecDepth 100000 in
set_option maxHeartbeats 1000000 in
theorem marksOk_any (row who epoch last : Int) (h0 : -1 <= last) (h1 : last <= 100000) (A : Option Addr) (cap : Nat) (l : List Mk) (hl : l.length <= 1048576) (w : World) (hA : At w A l) :
    Calls Tryz.prog 151 #[.agg #[.int .i64 row, .int .i64 who, .int .i64 epoch, .int .i64 last, .slice A l.length cap]] w fun e w' => e = .returned (.bool (rightTo last l l.length)) /\ Below w.heap.size w w' := by
  have HA : Hid (At w A l) := hA
  clear hA
  go_enter Tryz.func151, Tryz.ntmps151
  go_wp2
  go_loopw [3, 4, 16] (fun s lo i w' => ∃ (n : Nat) (x y : Int), i = .int .i64 (n : Int) /\ s = .int .i64 x /\ lo = .int .i64 y /\ n <= l.length /\ x <= last /\ -2000000 <= x /\ 0 <= y /\ y <= 100001 /\ Hid (x = last - l.length + n) /\ Hid (y = if n = 0 then 0 else offAt l (n - 1) + 1) /\ Hid (rightTo last l n = true) /\ Below w.heap.size w w') (fun _ _ i _ => l.length - (intOf i).toNat)
  case atStart => exact ⟨0, _, 0, rfl, rfl, rfl, by omega, by omega, by omega, by omega, by omega, by show _ = _; omega, rfl, rfl, alloc0 (Below.refl _ _) _⟩
  case round =>
    obtain ⟨n, x, y, rfl, rfl, rfl, hn, hx0, hx1, hy0, hy1, hx, hy, hR, hbl⟩ := hrel
    by_cases hlt : n < l.length
    . obtain ⟨b, o, rfl, hbs, hin⟩ : ∃ b o, A = some ⟨b, o, none⟩ /\ b < w.heap.size /\ In w b o l := by
        rcases HA.out with h | h
        . subst h; simp at hlt
        . exact h
      obtain ⟨c0, c1⟩ := (hin.below hbs hbl).getMk n hlt
      have hi0 : (0 : Int) <= (n : Int) := by omega
      have hi1 : (n : Int) < (l.length : Int) := by omega
      have HS : Hid (seqAt last l n = x + 1) := by show _ = _; rw [seqAt_is h0 h1 hl hlt, hx.out]; omega
      by_cases hs : l[n].seq = x + 1
      . have hxl : x + 1 <= last := by have := hx.out; omega
        cases hw : inB l[n].off y 100000
        . have hF : Hid (rightTo last l l.length = false) := rightAll_no hlt (by
            rw [rightAt_is hlt]
            have hw' : ¬ (y <= l[n].off /\ l[n].off <= 100000) := by simpa [inB] using hw
            have hy' := hy.out
            by_cases hz : n = 0
            . rw [if_pos hz] at hy'
              subst hy'
              simp [hw]
            . rw [if_neg hz] at hy'
              by_cases hq : l[n].off <= 100000
              . have : decide (offAt l (n - 1) < l[n].off) = false := decide_eq_false (by omega)
                rw [this]; simp [hz]
              . have : inB l[n].off 0 100000 = false := by simp [inB]; omega
                rw [this]; simp)
          go_wp2_with (go_at_call 48; refine (within_any _ _ _ _).mono ?_; rw [hw]; rintro e w1 ⟨rfl, rfl⟩)
          go_ret
          exact ⟨by rw [hF.out]; rfl, by repeat (first | exact Below.refl _ _ | assumption | refine via0 (by assumption) ?_ | refine Below.drew ?_ | refine alloc0 ?_ _)⟩
        . have hw' : y <= l[n].off /\ l[n].off <= 100000 := by simpa [inB] using hw
          have hF : Hid (rightTo last l (n + 1) = true) := by
            show _ = _
            rw [rightTo_succ, hR.out, rightAt_is hlt, HS.out, hs]
            have hy' := hy.out
            have a : inB l[n].off 0 100000 = true := by simp [inB]; omega
            rw [a]
            by_cases hz : n = 0
            . simp [hz]
            . rw [if_neg hz] at hy'
              have : decide (offAt l (n - 1) < l[n].off) = true := decide_eq_true (by omega)
              rw [this]; simp
          have hO : Hid (l[n].off + 1 = if n + 1 = 0 then 0 else offAt l (n + 1 - 1) + 1) := by show _ = _; simp [offAt_is hlt]
          obtain ⟨hw1, hw2⟩ := hw'
          go_wp2_with (go_at_call 48; refine (within_any _ _ _ _).mono ?_; rw [hw]; rintro e w1 ⟨rfl, rfl⟩)
          exact ⟨⟨n + 1, x + 1, l[n].off + 1, by go_num, rfl, rfl, by omega, hxl, by omega, by omega, by omega, by have := hx.out; show _ = _; omega, hO, hF, by repeat (first | exact Below.refl _ _ | assumption | refine via0 (by assumption) ?_ | refine Below.drew ?_ | refine alloc0 ?_ _)⟩, by simp [intOf]; omega⟩
      . have hF : Hid (rightTo last l l.length = false) := rightAll_no hlt (by rw [rightAt_is hlt, HS.out]; simp [hs])
        go_wp2_with fail
        go_ret
        exact ⟨by rw [hF.out]; rfl, by repeat (first | exact Below.refl _ _ | assumption | refine via0 (by assumption) ?_ | refine Below.drew ?_ | refine alloc0 ?_ _)⟩
    . obtain rfl : n = l.length := by omega
      go_wp2
      go_ret
      exact ⟨by rw [hR.out]; rfl, hbl⟩
set_option maxRecDepth 100000 in
set_option maxHeartbeats 2000000 in
theorem implOk_is (row who epoch last window : Int) (A : Option Addr) (cap : Nat) (l : List Mk) (hl : l.length <= 1048576) (w : World) (hA : At w A l) :
    Calls Tryz.prog 103 #[.agg #[.int .i64 row, .int .i64 who, .int .i64 epoch, .int .i64 last, .slice A l.length cap], .int .i64 window] w fun e w' => e = .returned (.bool (okB row who epoch last window l)) /\ Below w.heap.size w w' := by
  have HA : Hid (At w A l) := hA
  clear hA
  by_cases hL : -1 <= last /\ last <= 100000
  . have HL := hidP hL
    have hr := fun W hW => marksOk_any row who epoch last HL.out.1 HL.out.2 A cap l hl W hW
    have Hr := hidP hr
    have hb : last + 1 <= 100001 := by omega
    have hb' : 0 <= last + 1 := by omega
    clear hr hL
    have Hok : Hid (∀ a1 a2 a3 a4 a5 a6 a7 a8 : Bool, a1 = inB row 0 3 -> a2 = inB who 0 3 -> a3 = inB epoch 0 100000 -> a4 = inB last (-1) 100000 -> a5 = decide ((l.length : Int) <= window) -> a6 = decide ((l.length : Int) <= last + 1) -> a7 = (decide ((l.length : Int) = 0) == decide (last = -1)) -> a8 = rightTo last l l.length -> okB row who epoch last window l = (a1 && a2 && a3 && a4 && a5 && a6 && a7 && a8)) := by
      intro a1 a2 a3 a4 a5 a6 a7 a8 e1 e2 e3 e4 e5 e6 e7 e8
      subst e1 e2 e3 e4 e5 e6 e7 e8
      rfl
    generalize okB row who epoch last window l = ans at *
    generalize rightTo last l l.length = rt at *
    go_enter Tryz.func103, Tryz.ntmps103
    go_wp2_with (first
      | (go_at_call 48; refine (within_any _ _ _ _).mono ?_; rintro e w' ⟨rfl, rfl⟩)
      | (go_at_call 151; refine (Hr.out _ (HA.out.below (alloc0 (Below.refl _ _) _))).mono ?_; rintro e w1 ⟨rfl, g1⟩))
    all_goals
      go_ret
      refine ⟨?_, by repeat (first | exact Below.refl _ _ | assumption | refine via0 (by assumption) ?_ | refine Below.drew ?_ | refine alloc0 ?_ _)⟩
      rw [Hok.out _ _ _ _ _ _ _ _ rfl rfl rfl rfl rfl rfl rfl rfl]
      clear Hok Hr HA
      refine congrArg (fun b : Bool => Ending.returned (Value.bool b)) (?_ : _ = _)
      try simp only [beqs] at *
      (try simp_all)<;>(intros; omega)
  . have h4 : inB last (-1) 100000 = false := by simp only [inB, decide_eq_false_iff_not]; exact hL
    have hF : Hid (okB row who epoch last window l = false) := by show _ = _; simp [okB, h4]
    clear hL
    go_enter Tryz.func103, Tryz.ntmps103
    go_wp2_with (go_at_call 48; refine (within_any _ _ _ _).mono ?_; rintro e w' ⟨rfl, rfl⟩)
    all_goals
      go_ret
      exact ⟨by rw [hF.out]; first | rfl | simp_all, by repeat (first | exact Below.refl _ _ | assumption | refine via0 (by assumption) ?_ | refine Below.drew ?_ | refine alloc0 ?_ _)⟩
end Go.Proofs.YtaefjifcnoiplaaGreat.Gen

/-
  Which logs are right: by the specification and by the program, the same. No condition but the length that every text has, and that there are at most 3000000 entries.
-/
namespace Go.Proofs.YtaefjifcnoiplaaGreat.Gen
open Go.ChangeShapes Go.WideShapes Go.ChangeAt Go.RowKit Go.Joins Go.Deep Base
set_option linter.unusedVariables false
def enF (x : En) : Bool := CmdOk.okB x.who x.seq x.op x.a x.b x.c x.key x.text
def termsB : Int -> List En -> Bool
  | _, [] => true
  | t, x :: l => inB x.term t 300 && termsB x.term l
def logB (base bt : Int) (l : List En) : Bool := inB base 0 300 && inB bt 0 300 && decide ((l.length : Int) <= 300 - base) && termsB bt l && l.all enF
theorem terms_drop (t : Int) (l : List En) (n : Nat) (hn : n < l.length) : termsB t (l.drop n) = (inB l[n].term t 300 && termsB l[n].term (l.drop (n + 1))) := by
  rw [List.drop_eq_getElem_cons hn]; rfl
theorem all_drop (f : En -> Bool) (l : List En) (n : Nat) (hn : n < l.length) : (l.drop n).all f = (f l[n] && (l.drop (n + 1)).all f) := by
  rw [List.drop_eq_getElem_cons hn]; rfl
theorem in_le {x lo hi : Int} (h : inB x lo hi = true) : lo <= x /\ x <= hi := by simpa [inB] using h
theorem isIndex_any (x : Int) (w : World) : Calls Tryz.prog 47 #[.int .i64 x] w fun e w' => e = .returned (.bool (inB x 0 300)) /\ w' = w := by
  go_enter Tryz.func47, Tryz.ntmps47
  go_wp2_with (go_at_call 48; refine (within_any _ _ _ _).mono ?_; rintro e w' ⟨rfl, rfl⟩)
  go_ret
  exact ⟨rfl, rfl⟩
set_option maxRecDepth 100000 in
set_option maxHeartbeats 1000000 in
theorem termsAscend_any (t0 : Int) (A : Option Addr) (cap : Nat) (l : List En) (hl : l.length <= 3000000) (w : World) (hA : At w A l) :
    Calls Tryz.prog 93 #[.int .i64 t0, .slice A l.length cap] w fun e w' => e = .returned (.bool (termsB t0 l)) /\ Below w.heap.size w w' := by
  have HA := hidP hA
  clear hA
  go_enter Tryz.func93, Tryz.ntmps93
  go_wp2
  go_loopw [0, 9] (fun t i w' => ∃ (n : Nat) (z : Int), i = .int .i64 (n : Int) /\ t = .int .i64 z /\ n <= l.length /\ Hid (termsB t0 l = termsB z (l.drop n)) /\ Below w.heap.size w w') (fun _ i _ => l.length - (intOf i).toNat)
  case atStart => exact ⟨0, t0, rfl, rfl, by omega, rfl, Below.refl _ _⟩
  case round =>
    obtain ⟨n, z, rfl, rfl, hn, hz, hbl⟩ := hrel
    by_cases hlt : n < l.length
    . obtain ⟨b, o, rfl, hbs, hIn⟩ : ∃ b o, A = some ⟨b, o, none⟩ /\ b < w.heap.size /\ In w b o l := by
        rcases HA.out with h | h
        . subst h; simp at hlt
        . exact h
      obtain ⟨c0, c1, c2, c3, c4, c5, c6, c7, c8⟩ := (hIn.below hbs hbl).getEn n hlt
      have hd := hidP (hz.out.trans (terms_drop z l n hlt))
      have HW : Hid (∀ W : World, Calls Tryz.prog 48 #[.int .i64 l[n].term, .int .i64 z, .int .i64 300] W fun e w' => e = .returned (.bool (inB l[n].term z 300)) /\ w' = W) := fun W => within_any _ _ _ W
      clear hz
      generalize hb : inB l[n].term z 300 = bb at hd HW
      clear hb
      cases bb
      . go_wp2_with fail
        refine (HW.out _).mono ?_
        rintro e w1 ⟨rfl, rfl⟩
        go_wp2
        go_ret
        exact ⟨by rw [hd.out]; rfl, alloc0 hbl _⟩
      . go_wp2_with fail
        refine (HW.out _).mono ?_
        rintro e w1 ⟨rfl, rfl⟩
        go_wp2
        exact ⟨⟨n + 1, l[n].term, by go_num, rfl, by omega, by show _ = _; rw [hd.out]; rfl, alloc0 hbl _⟩, by simp [intOf]; omega⟩
    . have e : l.drop n = [] := List.drop_of_length_le (by omega)
      go_wp2
      go_ret
      have h := hz.out
      rw [e] at h
      exact ⟨by rw [h]; rfl, hbl⟩
set_option maxRecDepth 100000 in
theorem logOk1_any (x : En) (hx : x.fit) (w : World) :
    Calls Tryz.prog 95 #[.agg #[.int .i64 x.term, .int .i64 x.who, .int .i64 x.seq, .int .i64 x.op, .int .i64 x.a, .int .i64 x.b, .int .i64 x.c, .string x.key, .string x.text]] w fun e w' => e = .returned (.bool (enF x)) /\ Below w.heap.size w w' := by
  have HX := hidP hx
  clear hx
  go_enter Tryz.func95, Tryz.ntmps95
  go_wp2_with fail
  refine (CmdOk.impl_any _ _ _ _ _ _ _ _ HX.out.1 HX.out.2 _).mono ?_
  rintro e w1 ⟨rfl, g1⟩
  go_wp2
  go_ret
  exact ⟨rfl, by repeat (first | exact Below.refl _ _ | assumption | refine via0 (by assumption) ?_ | refine Below.drew ?_ | refine alloc0 ?_ _)⟩
set_option maxRecDepth 100000 in
set_option maxHeartbeats 1000000 in
theorem eachEntry_any (A : Option Addr) (cap : Nat) (l : List En) (hl : l.length <= 3000000) (hr : ∀ x ∈ l, x.fit) (w : World) (hA : At w A l) :
    Calls Tryz.prog 94 #[.slice A l.length cap, .func (.func 95) #[] #[]] w fun e w' => e = .returned (.bool (l.all enF)) /\ Below w.heap.size w w' := by
  have HA := hidP hA
  have Hr := hidP hr
  clear hA hr
  go_enter Tryz.func94, Tryz.ntmps94
  go_wp2
  go_loopw [9] (fun i w' => ∃ (n : Nat), i = .int .i64 (n : Int) /\ n <= l.length /\ Hid (l.all enF = (l.drop n).all enF) /\ Below w.heap.size w w') (fun i _ => l.length - (intOf i).toNat)
  case atStart => exact ⟨0, rfl, by omega, rfl, Below.refl _ _⟩
  case round =>
    obtain ⟨n, rfl, hn, hz, hbl⟩ := hrel
    by_cases hlt : n < l.length
    . obtain ⟨b, o, rfl, hbs, hIn⟩ : ∃ b o, A = some ⟨b, o, none⟩ /\ b < w.heap.size /\ In w b o l := by
        rcases HA.out with h | h
        . subst h; simp at hlt
        . exact h
      obtain ⟨c0, c1, c2, c3, c4, c5, c6, c7, c8⟩ := (hIn.below hbs hbl).getEn n hlt
      have hd := hidP (hz.out.trans (all_drop enF l n hlt))
      have HC : Hid (∀ W : World, Calls Tryz.prog 95 #[.agg #[.int .i64 l[n].term, .int .i64 l[n].who, .int .i64 l[n].seq, .int .i64 l[n].op, .int .i64 l[n].a, .int .i64 l[n].b, .int .i64 l[n].c, .string l[n].key, .string l[n].text]] W fun e w' => e = .returned (.bool (enF l[n])) /\ Below W.heap.size W w') := fun W => logOk1_any l[n] (Hr.out _ (List.getElem_mem hlt)) W
      clear hz
      generalize hb : enF l[n] = bb at hd HC
      clear hb
      cases bb
      . go_wp2_with fail
        refine (HC.out _).mono ?_
        rintro e w1 ⟨rfl, g1⟩
        go_wp2
        go_ret
        exact ⟨by rw [hd.out]; rfl, via0 g1 (alloc0 hbl _)⟩
      . go_wp2_with fail
        refine (HC.out _).mono ?_
        rintro e w1 ⟨rfl, g1⟩
        go_wp2
        exact ⟨⟨n + 1, by go_num, by omega, by show _ = _; rw [hd.out]; rfl, via0 g1 (alloc0 hbl _)⟩, by simp [intOf]; omega⟩
    . have e : l.drop n = [] := List.drop_of_length_le (by omega)
      go_wp2
      go_ret
      have h := hz.out
      rw [e] at h
      exact ⟨by rw [h]; rfl, hbl⟩
set_option maxRecDepth 100000 in
set_option maxHeartbeats 2000000 in
theorem implLogOk_any (base bt : Int) (A : Option Addr) (cap : Nat) (l : List En) (hl : l.length <= 3000000) (hr : ∀ x ∈ l, x.fit) (w : World) (hA : At w A l) :
    Calls Tryz.prog 49 #[.agg #[.int .i64 base, .int .i64 bt, .slice A l.length cap]] w fun e w' => e = .returned (.bool (logB base bt l)) /\ Below w.heap.size w w' := by
  have E1 : Hid (∀ W : World, Calls Tryz.prog 47 #[.int .i64 base] W fun e w' => e = .returned (.bool (inB base 0 300)) /\ w' = W) := fun W => isIndex_any _ W
  have E2 : Hid (∀ W : World, Calls Tryz.prog 47 #[.int .i64 bt] W fun e w' => e = .returned (.bool (inB bt 0 300)) /\ w' = W) := fun W => isIndex_any _ W
  have E4 : Hid (∀ W : World, Below w.heap.size w W -> Calls Tryz.prog 93 #[.int .i64 bt, .slice A l.length cap] W fun e w' => e = .returned (.bool (termsB bt l)) /\ Below W.heap.size W w') := fun W g => termsAscend_any bt A cap l hl W (hA.below g)
  have E5 : Hid (∀ W : World, Below w.heap.size w W -> Calls Tryz.prog 94 #[.slice A l.length cap, .func (.func 95) #[] #[]] W fun e w' => e = .returned (.bool (l.all enF)) /\ Below W.heap.size W w') := fun W g => eachEntry_any A cap l hl hr W (hA.below g)
  clear hA hr
  have B0 : Below w.heap.size w (w.alloc (.cells #[.int .i64 base, .int .i64 bt, .slice A l.length cap] 43)) := alloc0 (Below.refl _ _) _
  have hF : Hid (logB base bt l = (inB base 0 300 && inB bt 0 300 && decide ((l.length : Int) <= 300 - base) && termsB bt l && l.all enF)) := rfl
  cases h1 : inB base 0 300
  . rw [h1] at E1 hF
    clear h1
    go_enter Tryz.func49, Tryz.ntmps49
    go_wp2_with fail
    refine (E1.out _).mono ?_
    rintro e w1 ⟨rfl, rfl⟩
    go_wp2
    go_ret
    exact ⟨by rw [hF.out]; rfl, B0⟩
  obtain ⟨hb0, hb1⟩ := in_le h1
  rw [h1] at E1 hF
  clear h1
  generalize h2 : inB bt 0 300 = b2 at E2 hF
  clear h2
  cases b2
  . go_enter Tryz.func49, Tryz.ntmps49
    go_wp2_with fail
    refine (E1.out _).mono ?_
    rintro e w1 ⟨rfl, rfl⟩
    go_wp2_with fail
    refine (E2.out _).mono ?_
    rintro e w1 ⟨rfl, rfl⟩
    go_wp2
    go_ret
    exact ⟨by rw [hF.out]; rfl, B0⟩
  by_cases h3 : (l.length : Int) <= 300 - base
  . rw [decide_eq_true h3] at hF
    generalize h4 : termsB bt l = b4 at E4 hF
    generalize h5 : l.all enF = b5 at E5 hF
    clear h4 h5
    cases b4
    . go_enter Tryz.func49, Tryz.ntmps49
      go_wp2_with fail
      refine (E1.out _).mono ?_
      rintro e w1 ⟨rfl, rfl⟩
      go_wp2_with fail
      refine (E2.out _).mono ?_
      rintro e w1 ⟨rfl, rfl⟩
      go_wp2_with fail
      refine (E4.out _ B0).mono ?_
      rintro e w1 ⟨rfl, g1⟩
      go_wp2
      go_ret
      exact ⟨by rw [hF.out]; rfl, via0 g1 B0⟩
    . cases b5
      all_goals
        go_enter Tryz.func49, Tryz.ntmps49
        go_wp2_with fail
        refine (E1.out _).mono ?_
        rintro e w1 ⟨rfl, rfl⟩
        go_wp2_with fail
        refine (E2.out _).mono ?_
        rintro e w1 ⟨rfl, rfl⟩
        go_wp2_with fail
        refine (E4.out _ B0).mono ?_
        rintro e w1 ⟨rfl, g1⟩
        have p1 := (Blk.new w 43 #[.int .i64 base, .int .i64 bt, .slice A l.length cap]).below g1 (by simp)
        obtain ⟨u0, u1, u2⟩ := p1.row3
        have q1 := p1.lt
        have B1 := via0 g1 B0
        clear g1
        go_wp2_with fail
        refine (E5.out _ B1).mono ?_
        rintro e w2 ⟨rfl, g2⟩
        go_wp2
        go_ret
        exact ⟨by rw [hF.out]; rfl, via0 g2 B1⟩
  . rw [decide_eq_false h3] at hF
    go_enter Tryz.func49, Tryz.ntmps49
    go_wp2_with fail
    refine (E1.out _).mono ?_
    rintro e w1 ⟨rfl, rfl⟩
    go_wp2_with fail
    refine (E2.out _).mono ?_
    rintro e w1 ⟨rfl, rfl⟩
    go_wp2
    go_ret
    exact ⟨by rw [hF.out]; rfl, B0⟩
set_option maxRecDepth 100000 in
set_option maxHeartbeats 2000000 in
theorem specLogOk_any (base bt : Int) (A : Option Addr) (cap : Nat) (l : List En) (hl : l.length <= 3000000) (hr : ∀ x ∈ l, x.fit) (w : World) (hA : At w A l) :
    Calls Tryz.prog 35 #[.agg #[.int .i64 base, .int .i64 bt, .slice A l.length cap]] w fun e w' => e = .returned (.bool (logB base bt l)) /\ Below w.heap.size w w' := by
  have E1 : Hid (∀ W : World, Calls Tryz.prog 34 #[.int .i64 base, .int .i64 0, .int .i64 300] W fun e w' => e = .returned (.bool (inB base 0 300)) /\ w' = W) := fun W => in_any _ _ _ W
  have E2 : Hid (∀ W : World, Calls Tryz.prog 34 #[.int .i64 bt, .int .i64 0, .int .i64 300] W fun e w' => e = .returned (.bool (inB bt 0 300)) /\ w' = W) := fun W => in_any _ _ _ W
  have HA := hidP hA
  have Hr := hidP hr
  clear hA hr
  have B0 : Below w.heap.size w (w.alloc (.cells #[.int .i64 base, .int .i64 bt, .slice A l.length cap] 43)) := alloc0 (Below.refl _ _) _
  have P0 : Blk (w.alloc (.cells #[.int .i64 base, .int .i64 bt, .slice A l.length cap] 43)) w.heap.size 43 #[.int .i64 base, .int .i64 bt, .slice A l.length cap] := Blk.new w 43 #[.int .i64 base, .int .i64 bt, .slice A l.length cap]
  have hF : Hid (logB base bt l = (inB base 0 300 && inB bt 0 300 && decide ((l.length : Int) <= 300 - base) && termsB bt l && l.all enF)) := rfl
  cases h1 : inB base 0 300
  . rw [h1] at E1 hF
    clear h1
    go_enter Tryz.func35, Tryz.ntmps35
    go_wp2_with fail
    refine (E1.out _).mono ?_
    rintro e w1 ⟨rfl, rfl⟩
    go_wp2
    go_ret
    exact ⟨by rw [hF.out]; rfl, B0⟩
  obtain ⟨hb0, hb1⟩ := in_le h1
  rw [h1] at E1 hF
  clear h1
  generalize h2 : inB bt 0 300 = b2 at E2 hF
  clear h2
  cases b2
  . go_enter Tryz.func35, Tryz.ntmps35
    go_wp2_with fail
    refine (E1.out _).mono ?_
    rintro e w1 ⟨rfl, rfl⟩
    go_wp2_with fail
    refine (E2.out _).mono ?_
    rintro e w1 ⟨rfl, rfl⟩
    go_wp2
    go_ret
    exact ⟨by rw [hF.out]; rfl, B0⟩
  by_cases h3 : (l.length : Int) <= 300 - base
  . rw [decide_eq_true h3] at hF
    have h3' : ¬ 300 - base < (l.length : Int) := by omega
    go_enter Tryz.func35, Tryz.ntmps35
    go_wp2_with fail
    refine (E1.out _).mono ?_
    rintro e w1 ⟨rfl, rfl⟩
    go_wp2_with fail
    refine (E2.out _).mono ?_
    rintro e w1 ⟨rfl, rfl⟩
    go_wp2
    go_loopw [3, 4] (fun t i w' => ∃ (n : Nat) (z : Int), i = .int .i64 (n : Int) /\ t = .int .i64 z /\ n <= l.length /\ Hid (logB base bt l = (termsB z (l.drop n) && (l.drop n).all enF)) /\ Below w.heap.size w w' /\ Blk w' w.heap.size 43 #[.int .i64 base, .int .i64 bt, .slice A l.length cap]) (fun _ i _ => l.length - (intOf i).toNat)
    case atStart => exact ⟨0, bt, rfl, rfl, by omega, by show _ = _; rw [hF.out]; simp, B0, P0⟩
    case round =>
      obtain ⟨n, z, rfl, rfl, hn, hz, hbl, hP⟩ := hrel
      obtain ⟨u0, u1, u2⟩ := hP.row3
      have q1 := hP.lt
      by_cases hlt : n < l.length
      . obtain ⟨b, o, rfl, hbs, hIn⟩ : ∃ b o, A = some ⟨b, o, none⟩ /\ b < w.heap.size /\ In w b o l := by
          rcases HA.out with h | h
          . subst h; simp at hlt
          . exact h
        obtain ⟨c0, c1, c2, c3, c4, c5, c6, c7, c8⟩ := (hIn.below hbs hbl).getEn n hlt
        have hd := hidP (hz.out.trans (by rw [terms_drop z l n hlt, all_drop enF l n hlt]))
        have HW : Hid (∀ W : World, Calls Tryz.prog 34 #[.int .i64 l[n].term, .int .i64 z, .int .i64 300] W fun e w' => e = .returned (.bool (inB l[n].term z 300)) /\ w' = W) := fun W => in_any _ _ _ W
        have HC : Hid (∀ W : World, Calls Tryz.prog 76 #[.agg #[.int .i64 l[n].who, .int .i64 l[n].seq, .int .i64 l[n].op, .int .i64 l[n].a, .int .i64 l[n].b, .int .i64 l[n].c, .string l[n].key, .string l[n].text]] W fun e w' => e = .returned (.bool (enF l[n])) /\ Below W.heap.size W w') := fun W => CmdOk.spec_any _ _ _ _ _ _ _ _ (Hr.out _ (List.getElem_mem hlt)).1 (Hr.out _ (List.getElem_mem hlt)).2 W
        clear hz
        generalize hb : inB l[n].term z 300 = bb at hd HW
        clear hb
        cases bb
        . go_wp2_with fail
          refine (HW.out _).mono ?_
          rintro e w1 ⟨rfl, rfl⟩
          go_wp2
          go_ret
          exact ⟨by rw [hd.out]; rfl, hbl⟩
        . generalize hb : enF l[n] = bb at hd HC
          clear hb
          cases bb
          . go_wp2_with fail
            refine (HW.out _).mono ?_
            rintro e w1 ⟨rfl, rfl⟩
            go_wp2_with fail
            refine (HC.out _).mono ?_
            rintro e w1 ⟨rfl, g1⟩
            go_wp2
            go_ret
            exact ⟨by rw [hd.out]; simp, via0 g1 hbl⟩
          . go_wp2_with fail
            refine (HW.out _).mono ?_
            rintro e w1 ⟨rfl, rfl⟩
            go_wp2_with fail
            refine (HC.out _).mono ?_
            rintro e w1 ⟨rfl, g1⟩
            have hP1 := hP.below g1 hP.lt
            have hbl1 := via0 g1 hbl
            clear u0 u1 u2 c0 c1 c2 c3 c4 c5 c6 c7 c8
            obtain ⟨u0, u1, u2⟩ := hP1.row3
            obtain ⟨c0, c1, c2, c3, c4, c5, c6, c7, c8⟩ := (hIn.below hbs hbl1).getEn n hlt
            have q2 := hP1.lt
            go_wp2
            exact ⟨⟨n + 1, l[n].term, by go_num, rfl, by omega, by show _ = _; rw [hd.out]; rfl, hbl1, hP1⟩, by simp [intOf]; omega⟩
      . have e : l.drop n = [] := List.drop_of_length_le (by omega)
        go_wp2
        go_ret
        have h := hz.out
        rw [e] at h
        exact ⟨by rw [h]; rfl, hbl⟩
  . rw [decide_eq_false h3] at hF
    have h3' : 300 - base < (l.length : Int) := by omega
    go_enter Tryz.func35, Tryz.ntmps35
    go_wp2_with fail
    refine (E1.out _).mono ?_
    rintro e w1 ⟨rfl, rfl⟩
    go_wp2_with fail
    refine (E2.out _).mono ?_
    rintro e w1 ⟨rfl, rfl⟩
    go_wp2
    go_ret
    exact ⟨by rw [hF.out]; rfl, B0⟩
end Go.Proofs.YtaefjifcnoiplaaGreat.Gen
