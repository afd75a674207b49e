/-
  Lists of commands: how they lie, what the laws' sz, to and eq functions of them do; the argument opened. No condition but that there are at most 1048576, and the length that every text has.
-/
import Derived.Test.YtkmkldjipihceaaGreatEnt
set_option linter.unusedVariables false
set_option linter.unusedSimpArgs false
set_option maxRecDepth 100000
set_option maxHeartbeats 8000000
set_option maxRecDepth 100000
set_option maxHeartbeats 8000000
namespace Go.Proofs.YtkmkldjipihceaaGreat.Gen
open ChangeShapes WideShapes ChangeAt RowKit Joins Deep Base
structure Co where
  who : Int
  seq : Int
  op : Int
  a : Int
  b : Int
  c : Int
  key : ByteArray
  text : ByteArray
instance : Inhabited Co := ⟨⟨0, 0, 0, 0, 0, 0, ⟨#[]⟩, ⟨#[]⟩⟩⟩
instance : Cel Co where
  k := 8
  cs x := [.int .i64 x.who, .int .i64 x.seq, .int .i64 x.op, .int .i64 x.a, .int .i64 x.b, .int .i64 x.c, .string x.key, .string x.text]
  len _ := rfl
  one x u hu := by simp at hu; rcases hu with rfl | rfl | rfl | rfl | rfl | rfl | rfl | rfl<;>rfl
def Co.fit (x : Co) : Prop := x.key.size <= 9223372036854775807 /\ x.text.size <= 9223372036854775807
theorem In.getCo {w : World} {b o : Nat} {l : List Co} (h : In w b o l) (n : Nat) (hi : n < l.length) :
 w.cell? ⟨b, o + n * 8, none⟩ = some (.int .i64 l[n].who) /\ w.cell? ⟨b, o + n * 8 + 1, none⟩ = some (.int .i64 l[n].seq) /\ w.cell? ⟨b, o + n * 8 + 2, none⟩ = some (.int .i64 l[n].op) /\ w.cell? ⟨b, o + n * 8 + 3, none⟩ = some (.int .i64 l[n].a) /\ w.cell? ⟨b, o + n * 8 + 4, none⟩ = some (.int .i64 l[n].b) /\ w.cell? ⟨b, o + n * 8 + 5, none⟩ = some (.int .i64 l[n].c) /\ w.cell? ⟨b, o + n * 8 + 6, none⟩ = some (.string l[n].key) /\ w.cell? ⟨b, o + n * 8 + 7, none⟩ = some (.string l[n].text) :=
 ⟨h.cell n hi (f := 0) rfl, h.cell n hi (f := 1) rfl, h.cell n hi (f := 2) rfl, h.cell n hi (f := 3) rfl, h.cell n hi (f := 4) rfl, h.cell n hi (f := 5) rfl, h.cell n hi (f := 6) rfl, h.cell n hi (f := 7) rfl⟩
theorem infoCo : (Tryz.prog.info? 115).map (fun i => (i.zero, i.size, i.bytes)) = some (some (.agg Qc5), 8, 80) := by kernel_rfl
theorem cellsCoL : Tryz.prog.cellsOf 103 = 8 := by kernel_rfl
def szCo (x : Co) : Nat := x.key.size + x.text.size
theorem Qfg (A : Option Addr) (cap : Nat) (l : List Co) (hl : l.length <= 9223372036854775807) (hr : ∀ x ∈ l, x.fit) (left : Int) (h0 : 0 <= left) (h1 : left <= 1048576) (w : World) (hA : At w A l) :
 Calls Tryz.prog 14 #[.slice A l.length cap, .int .i64 left] w fun e w' => (∃ r : Int, e = .returned (.int .i64 r) /\ (r < 0 ∨ (0 <= r /\ r = left - (l.length : Int) - (Qat szCo l : Int)))) /\ Below w.heap.size w w' := by
 have HA := hidP hA
 have Hr := hidP hr
 clear hA hr
 by_cases h : left < (l.length : Int)
 . have g : left - (l.length : Int) < 0 := by omega
   go_enter Tryz.func14, Tryz.ntmps14
   go_wp2
   go_ret
   exact ⟨⟨-1, rfl, .inl (by omega)⟩, Below.refl _ _⟩
 . have g : ¬ left - (l.length : Int) < 0 := by omega
   go_enter Tryz.func14, Tryz.ntmps14
   go_wp2
   go_loopw [1, 5] (fun q i w' => ∃ (n : Nat) (z : Int), i = .int .i64 (n : Int) /\ q = .int .i64 z /\ n <= l.length /\ 0 <= z /\ z <= 1048576 /\ Hid (z = left - (l.length : Int) - (Qat szCo (l.take n) : Int)) /\ Below w.heap.size w w') (fun _ i _ => l.length - (intOf i).toNat)
   case atStart => exact ⟨0, _, rfl, rfl, by omega, by omega, by omega, by simp [Hid, Qat], Below.refl _ _⟩
   case round =>
    obtain ⟨n, z, rfl, rfl, hn, hz0, hz1, hz, hbl⟩ := hrel
    by_cases hlt : n < l.length
    . obtain ⟨b, o, rfl, hbs, hIn⟩ : ∃ b o, A = some ⟨b, o, none⟩ /\ b < w.heap.size /\ In w b o l := by
       rcases HA.out with h | h
       . subst h; simp at hlt
       . exact h
      obtain ⟨c0, c1, c2, c3, c4, c5, c6, c7⟩ := (hIn.below hbs hbl).getCo n hlt
      have hms := Hr.out _ (List.getElem_mem hlt)
      have hsn := hidP (Qbl szCo l n hlt)
      go_wp2_with fail
      refine (szCmd_at _ _ _ _ _ _ _ _ hms.1 hms.2 z hz0 hz1 _).mono ?_
      rintro e w1 ⟨⟨r, rfl, hr⟩, g1⟩
      rcases hr with rfl | ⟨hr0, hr1⟩
      . go_wp2
        go_ret
        exact ⟨⟨-1, rfl, .inl (by omega)⟩, via0 g1 hbl⟩
      . have hp : ¬ r < 0 := by omega
        have HR1 := hidP hr1
        clear hr1
        go_wp2
        have hz' := hz.out
        have hsn' := hsn.out
        have hr' := HR1.out
        exact ⟨⟨n + 1, r, by go_num, rfl, by omega, by omega, by omega, by show _ = _; rw [hsn', hr', hz']; simp only [szCo]; omega, via0 g1 hbl⟩, by simp [intOf]; omega⟩
    . have e : l.take n = l := List.take_of_length_le (by omega)
      go_wp2
      go_ret
      have hz' := hz.out
      rw [e] at hz'
      exact ⟨⟨z, rfl, .inr ⟨hz0, hz'⟩⟩, hbl⟩
theorem Qfc (A : Option Addr) (cap : Nat) (l : List Co) (hl : l.length <= 1048576) (w : World) (hA : At w A l) :
 Calls Tryz.prog 21 #[.slice A l.length cap] w fun e w' => e = .returned (.slice (some ⟨w.heap.size, 0, none⟩) l.length l.length) /\ Below w.heap.size w w' /\ w.heap.size < w'.heap.size /\ In w' w.heap.size 0 l /\ w'.there w.heap.size 0 (l.length * 8) := by
 have HA := hidP hA
 clear hA
 have hmk := Qbg (P := Tryz.prog) Tryz.underlying36 infoCo (by omega) l.length hl
 go_enter Tryz.func21, Tryz.ntmps21
 go_wp2
 go_loopw [4] (fun i w' => ∃ (n : Nat), i = .int .i64 (n : Int) /\ n <= l.length /\ Below w.heap.size w w' /\ w.heap.size < w'.heap.size /\ Hid (In w' w.heap.size 0 (l.take n)) /\ Hid (w'.there w.heap.size 0 (l.length * 8))) (fun i _ => l.length - (intOf i).toNat)
 case atStart => exact ⟨0, rfl, by omega, by repeat (first | exact Below.refl _ _ | assumption | refine via0 (by assumption) ?_ | refine Below.drew ?_ | refine Qab ?_ _), by simp, In.nil _ _ _, Qa0 w _ _ _ _⟩
 case round =>
  obtain ⟨n, rfl, hn, hbl, hsz, hin, hth⟩ := hrel
  by_cases hlt : n < l.length
  . obtain ⟨b, o, rfl, hbs, hIn⟩ : ∃ b o, A = some ⟨b, o, none⟩ /\ b < w.heap.size /\ In w b o l := by
     rcases HA.out with h | h
     . subst h; simp at hlt
     . exact h
    obtain ⟨c0, c1, c2, c3, c4, c5, c6, c7⟩ := (hIn.below hbs hbl).getCo n hlt
    obtain ⟨⟨v0, d0⟩, f0⟩ := Qah (f := 0) hth.out hlt (by omega)
    obtain ⟨⟨v1, d1⟩, f1⟩ := Qah (f := 1) hth.out hlt (by omega)
    obtain ⟨⟨v2, d2⟩, f2⟩ := Qah (f := 2) hth.out hlt (by omega)
    obtain ⟨⟨v3, d3⟩, f3⟩ := Qah (f := 3) hth.out hlt (by omega)
    obtain ⟨⟨v4, d4⟩, f4⟩ := Qah (f := 4) hth.out hlt (by omega)
    obtain ⟨⟨v5, d5⟩, f5⟩ := Qah (f := 5) hth.out hlt (by omega)
    obtain ⟨⟨v6, d6⟩, f6⟩ := Qah (f := 6) hth.out hlt (by omega)
    obtain ⟨⟨v7, d7⟩, f7⟩ := Qah (f := 7) hth.out hlt (by omega)
    simp only [Nat.zero_add, Nat.add_zero] at d0 f0 d1 f1 d2 f2 d3 f3 d4 f4 d5 f5 d6 f6 d7 f7
    go_wp2_with (go_at_call 46; refine (Cmd.to_any _ _ _ _ _ _ _ _ _).mono ?_; rintro e w1 ⟨rfl, g1⟩; obtain ⟨k1, m1⟩ := Qax g1; have s1 := g1.size)
    have hst := Qcb (hin.out.below hsz g1) (Qaz hth.out hsz g1) hlt
    refine ⟨⟨n + 1, by go_num, by omega, ?_, by simp; omega, hst.1, hst.2⟩, by simp [intOf]; omega⟩
    exact ((((((((via0 g1 hbl).setCell (Nat.le_refl _) _).setCell (Nat.le_refl _) _).setCell (Nat.le_refl _) _).setCell (Nat.le_refl _) _).setCell (Nat.le_refl _) _).setCell (Nat.le_refl _) _).setCell (Nat.le_refl _) _).setCell (Nat.le_refl _) _
  . have e : l.take n = l := List.take_of_length_le (by omega)
    go_wp2
    go_ret
    exact ⟨rfl, hbl, hsz, by have := hin.out; rwa [e] at this, hth.out⟩
theorem Qem (A A' : Option Addr) (cap cap' : Nat) (l : List Co) (hl : l.length <= 9223372036854775807) (w : World) (hA : At w A l) (hA' : At w A' l) :
 Calls Tryz.prog 29 #[.slice A l.length cap, .slice A' l.length cap'] w fun e w' => e = .returned (.bool true) /\ Below w.heap.size w w' := by
 have HA := hidP hA
 have HA' := hidP hA'
 clear hA hA'
 go_enter Tryz.func29, Tryz.ntmps29
 go_wp2
 go_loopw [5] (fun i w' => ∃ (n : Nat), i = .int .i64 (n : Int) /\ n <= l.length /\ Below w.heap.size w w') (fun i _ => l.length - (intOf i).toNat)
 case atStart => exact ⟨0, rfl, by omega, Below.refl _ _⟩
 case round =>
  obtain ⟨n, rfl, hn, hbl⟩ := hrel
  by_cases hlt : n < l.length
  . obtain ⟨b, o, rfl, hbs, hin⟩ : ∃ b o, A = some ⟨b, o, none⟩ /\ b < w.heap.size /\ In w b o l := by
     rcases HA.out with h | h
     . subst h; simp at hlt
     . exact h
    obtain ⟨b', o', rfl, hbs', hin'⟩ : ∃ b o, A' = some ⟨b, o, none⟩ /\ b < w.heap.size /\ In w b o l := by
     rcases HA'.out with h | h
     . subst h; simp at hlt
     . exact h
    obtain ⟨c0, c1, c2, c3, c4, c5, c6, c7⟩ := (hin.below hbs hbl).getCo n hlt
    obtain ⟨d0, d1, d2, d3, d4, d5, d6, d7⟩ := (hin'.below hbs' hbl).getCo n hlt
    have hb1 : b < wr.heap.size := Nat.lt_of_lt_of_le hbs hbl.size
    have hb2 : b' < wr.heap.size := Nat.lt_of_lt_of_le hbs' hbl.size
    have hi0 : (0 : Int) <= (n : Int) := by omega
    have hi1 : (n : Int) < (l.length : Int) := by omega
    go_wp2
    go_region_held3 (fun w' => w'.cell? ⟨b, o + n * 8, none⟩ = some (.int .i64 l[n].who) /\ w'.cell? ⟨b, o + n * 8 + 1, none⟩ = some (.int .i64 l[n].seq) /\ w'.cell? ⟨b, o + n * 8 + 2, none⟩ = some (.int .i64 l[n].op) /\ w'.cell? ⟨b, o + n * 8 + 3, none⟩ = some (.int .i64 l[n].a) /\ w'.cell? ⟨b, o + n * 8 + 4, none⟩ = some (.int .i64 l[n].b) /\ w'.cell? ⟨b, o + n * 8 + 5, none⟩ = some (.int .i64 l[n].c) /\ w'.cell? ⟨b, o + n * 8 + 6, none⟩ = some (.string l[n].key) /\ w'.cell? ⟨b, o + n * 8 + 7, none⟩ = some (.string l[n].text) /\ w'.cell? ⟨b', o' + n * 8, none⟩ = some (.int .i64 l[n].who) /\ w'.cell? ⟨b', o' + n * 8 + 1, none⟩ = some (.int .i64 l[n].seq) /\ w'.cell? ⟨b', o' + n * 8 + 2, none⟩ = some (.int .i64 l[n].op) /\ w'.cell? ⟨b', o' + n * 8 + 3, none⟩ = some (.int .i64 l[n].a) /\ w'.cell? ⟨b', o' + n * 8 + 4, none⟩ = some (.int .i64 l[n].b) /\ w'.cell? ⟨b', o' + n * 8 + 5, none⟩ = some (.int .i64 l[n].c) /\ w'.cell? ⟨b', o' + n * 8 + 6, none⟩ = some (.string l[n].key) /\ w'.cell? ⟨b', o' + n * 8 + 7, none⟩ = some (.string l[n].text) /\ wr.heap.size <= w'.heap.size)
     (first | (go_split_ands; refine ⟨?_, ?_, ?_, ?_, ?_, ?_, ?_, ?_, ?_, ?_, ?_, ?_, ?_, ?_, ?_, ?_, ?_⟩<;>first | assumption | exact (k1 _ _ hb1).trans (by assumption) | exact (k1 _ _ hb2).trans (by assumption) | exact s1 | (simp; done)) | go_keep)
     (first
      | (go_at_call 64; refine (Qfp _ _ _ _ _ _ _ _ _).mono ?_; rintro e w1 ⟨rfl, g1⟩; obtain ⟨k1, m1⟩ := Qax g1; have s1 := g1.size))
    all_goals
     go_wp2
     exact ⟨⟨n + 1, by go_num, by omega, via0 g1 hbl.drew⟩, by simp [intOf]; omega⟩
  . go_wp2
    go_ret
    exact ⟨rfl, hbl⟩
theorem openCo {H : Type} {enc : TypeId × Value -> H} {w : World} {base n : Nat} {spare : Nat -> Bool} {held : Bool} {a : Addr} {cs : List Value} {y : DataW H × List MemPlace}
 (h1 : w.cells? base a 8 = some cs) (h2 : DataW.trod enc Tryz.prog w base spare held n 103 cs = some y) :
 ∃ x : Co, x.fit /\ a.spot = none /\ a.block < w.heap.size /\ ∀ j v, (Cel.cs x)[j]? = some v -> w.cell? ⟨a.block, a.off + j, none⟩ = some v := by
 obtain ⟨_, hlen, hc⟩ := World.cells?_some h1
 match cs, hlen with
 | [c0, c1, c2, c3, c4, c5, c6, c7], _ =>
  obtain ⟨m, hf⟩ := Qbi Tryz.underlying103 (by kernel_rfl) h2
  obtain ⟨y0, g0⟩ := hf 0 _ rfl _ rfl
  obtain ⟨y1, g1⟩ := hf 1 _ rfl _ rfl
  obtain ⟨y2, g2⟩ := hf 2 _ rfl _ rfl
  obtain ⟨y3, g3⟩ := hf 3 _ rfl _ rfl
  obtain ⟨y4, g4⟩ := hf 4 _ rfl _ rfl
  obtain ⟨y5, g5⟩ := hf 5 _ rfl _ rfl
  obtain ⟨y6, g6⟩ := hf 6 _ rfl _ rfl
  obtain ⟨y7, g7⟩ := hf 7 _ rfl _ rfl
  obtain ⟨v0, e0, _, w0⟩ := DataW.trod_int Tryz.underlying3 g0
  obtain ⟨v1, e1, _, w1⟩ := DataW.trod_int Tryz.underlying3 g1
  obtain ⟨v2, e2, _, w2⟩ := DataW.trod_int Tryz.underlying3 g2
  obtain ⟨v3, e3, _, w3⟩ := DataW.trod_int Tryz.underlying3 g3
  obtain ⟨v4, e4, _, w4⟩ := DataW.trod_int Tryz.underlying3 g4
  obtain ⟨v5, e5, _, w5⟩ := DataW.trod_int Tryz.underlying3 g5
  obtain ⟨v6, e6, _, w6⟩ := DataW.trod_string Tryz.underlying9 g6
  obtain ⟨v7, e7, _, w7⟩ := DataW.trod_string Tryz.underlying9 g7
  simp at e0 e1 e2 e3 e4 e5 e6 e7
  subst e0 e1 e2 e3 e4 e5 e6 e7
  have q0 := hc 0 (by omega)
  have hsp : a.spot = none := by
   cases hs : a.spot with
   | none => rfl
   | some s => exfalso; simp [Addr.add, World.cell?, hs] at q0; split at q0<;>simp at q0
  have hlt : a.block < w.heap.size := by
   rw [show a.add 0 = a from rfl] at q0
   unfold World.cell? at q0
   cases hh : w.heap[a.block]? with
   | none => simp [hh] at q0
   | some ob => exact (Array.getElem?_eq_some_iff.1 hh).1
  refine ⟨⟨v0, v1, v2, v3, v4, v5, v6, v7⟩, ⟨by simpa [maxLen] using w6, by simpa [maxLen] using w7⟩, hsp, hlt, ?_⟩
  intro j v hv
  have hj : j < 8 := (List.getElem?_eq_some_iff.1 hv).1
  have q := hc j hj
  have e : a.add j = ⟨a.block, a.off + j, none⟩ := by
   obtain ⟨b, o, s⟩ := a
   simp only at hsp
   subst hsp
   exact Addr.add_mid b o j
  rw [e] at q
  rw [q]
  exact hv
theorem openCmdS {H : Type} {enc : TypeId × Value -> H} {W : World} {base n : Nat} {spare : Nat -> Bool} {held : Bool} {c : Value} {y : DataW H × List MemPlace}
 (g : DataW.trod enc Tryz.prog W base spare held n 26 [c] = some y) :
 ∃ (A : Option Addr) (cap : Nat) (l : List Co), c = .slice A l.length cap /\ l.length <= 9223372036854775807 /\ (∀ x ∈ l, x.fit) /\ At W A l := by
 rcases open_slice Tryz.underlying26 g with ⟨e2, _⟩ | ⟨a, len, cap, m, n', D, Pl, e2, _, hl, hm, hmm, _, hx⟩
 . simp at e2
   subst e2
   exact ⟨none, 0, [], rfl, by simp, by simp, .inl rfl⟩
 . simp at e2
   subst e2
   have hle : len <= m := by rw [hmm]; split<;>omega
   rw [cellsCoL] at hx
   obtain ⟨X, hX⟩ := choose_lt (α := Co) (p := fun i x => x.fit /\ (a.add (i * 8)).spot = none /\ (a.add (i * 8)).block < W.heap.size /\ ∀ j v, (Cel.cs x)[j]? = some v -> W.cell? ⟨(a.add (i * 8)).block, (a.add (i * 8)).off + j, none⟩ = some v)
    (n := len) (fun i hi => by obtain ⟨cs', h1, h2⟩ := hx i (by omega); exact openCo h1 h2)
   obtain ⟨l, rfl, hR, hat⟩ := Qdo (α := Co) (by decide) (R := Co.fit) hX
   exact ⟨some a, cap, l, rfl, by simp [maxLen] at hm ⊢; omega, hR, hat⟩
end Go.Proofs.YtkmkldjipihceaaGreat.Gen
