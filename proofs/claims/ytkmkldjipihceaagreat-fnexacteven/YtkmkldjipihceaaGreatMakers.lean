/-
  Maker: what the laws' to, sz, eq, mark and held functions of it do; the argument opened. No condition but that its list has at most 1048576 records.
-/
import Derived.Test.YtkmkldjipihceaaGreatRecs
set_option linter.unusedVariables false
set_option linter.unusedSimpArgs false
set_option maxRecDepth 100000
set_option maxHeartbeats 8000000
set_option maxRecDepth 100000
set_option maxHeartbeats 8000000
namespace Go.Proofs.YtkmkldjipihceaaGreat.Gen
open ChangeShapes WideShapes ChangeAt RowKit Joins Deep Base
theorem Qea (row who epoch last : Int) (A : Option Addr) (n cap : Nat) (hn : n <= 9223372036854775807) (left : Int) (h0 : 0 <= left) (h1 : left <= 1048576) (w : World) :
 Calls Tryz.prog 138 #[.agg (Qa6 row who epoch last A n cap), .int .i64 left] w fun e w' => e = .returned (.int .i64 (if left < n then -1 else left - n)) /\ Below w.heap.size w w' := by
 by_cases h : left < n
 . go_enter Tryz.func138, Tryz.ntmps138
   go_wp2_with (go_at_call 155; refine (Qgl A n cap hn left h0 h1 _).mono ?_; rw [if_pos h]; rintro e w1 ⟨rfl, rfl⟩)
   go_ret
   refine ⟨rfl, ?_⟩
   repeat (first | exact Below.refl _ _ | assumption | refine via0 (by assumption) ?_ | refine Below.drew ?_ | refine Qab ?_ _)
 . have hp : ¬ left - (n : Int) < 0 := by omega
   go_enter Tryz.func138, Tryz.ntmps138
   go_wp2_with (go_at_call 155; refine (Qgl A n cap hn left h0 h1 _).mono ?_; rw [if_neg h]; rintro e w1 ⟨rfl, rfl⟩)
   go_ret
   refine ⟨rfl, ?_⟩
   repeat (first | exact Below.refl _ _ | assumption | refine via0 (by assumption) ?_ | refine Below.drew ?_ | refine Qab ?_ _)
theorem Qho (row who epoch last : Int) (A : Option Addr) (cap : Nat) (l : List Mk) (hl : l.length <= 1048576) (w : World) (hA : At w A l) :
 Calls Tryz.prog 143 #[.agg (Qa6 row who epoch last A l.length cap)] w
  fun e w' => ∃ b, e = .returned (.agg (Qa6 row who epoch last (some ⟨b, 0, none⟩) l.length l.length)) /\ Below w.heap.size w w' /\ w.heap.size <= b /\ b < w'.heap.size /\ In w' b 0 l /\ w'.there b 0 (l.length * 2) := by
 have HA : Hid (∀ W : World, Below w.heap.size w W -> At W A l) := fun W hW => hA.below hW
 clear hA
 go_enter Tryz.func143, Tryz.ntmps143
 go_wp2_with (go_at_call 157; refine (toMkS_any A cap l hl _ (HA.out _ ?_)).mono ?_; (repeat (first | exact Below.refl _ _ | assumption | refine via0 (by assumption) ?_ | refine Below.drew ?_ | refine Qab ?_ _)); rintro e w1 ⟨rfl, g1, s1, i1, t1⟩; obtain ⟨k1, m1⟩ := Qax g1)
 have i2 : In w1 (w.heap.size + 1 + 1 + 1) 0 l := by simpa using i1
 have t2 : w1.there (w.heap.size + 1 + 1 + 1) 0 (l.length * 2) := by simpa using t1
 have s2 : w.heap.size + 1 + 1 + 1 < w1.heap.size := by simpa using s1
 have g2 : Below w.heap.size w w1 := via0 g1 (by repeat (first | exact Below.refl _ _ | assumption | refine via0 (by assumption) ?_ | refine Below.drew ?_ | refine Qab ?_ _))
 refine bodyPost_ret (v := .agg (Qa6 row who epoch last (some ⟨w.heap.size + 1 + 1 + 1, 0, none⟩) l.length l.length)) (by simp [results, Tryz.results143, go_sem, k1]) rfl ⟨w.heap.size + 1 + 1 + 1, rfl, ?_, by omega, by simp; omega, ?_, ?_⟩
 . exact Qa5 (Qa5 (Qa5 (Qa5 (Qa5 (Qa5 (g2) (by omega) _) (by omega) _) (by omega) _) (by omega) _) (by omega) _) (by omega) _
 . exact In.set (In.set (In.set (In.set (In.set (In.set (i2) _ _ (by simp)) _ _ (by simp)) _ _ (by simp)) _ _ (by simp)) _ _ (by simp)) _ _ (by simp)
 . exact Qaj (Qaj (Qaj (Qaj (Qaj (Qaj (t2) _ _ _) _ _ _) _ _ _) _ _ _) _ _ _) _ _ _
theorem Qg6 (row who epoch last : Int) (A A' : Option Addr) (cap cap' : Nat) (l : List Mk) (hl : l.length <= 9223372036854775807) (w : World) (hA : At w A l) (hA' : At w A' l) :
 Calls Tryz.prog 152 #[.agg (Qa6 row who epoch last A l.length cap), .agg (Qa6 row who epoch last A' l.length cap')] w fun e w' => e = .returned (.bool true) /\ Below w.heap.size w w' := by
 have HA : Hid (∀ W : World, Below w.heap.size w W -> At W A l) := fun W hW => hA.below hW
 have HA' : Hid (∀ W : World, Below w.heap.size w W -> At W A' l) := fun W hW => hA'.below hW
 clear hA hA'
 go_enter Tryz.func152, Tryz.ntmps152
 go_wp2_with (go_at_call 174; refine (eqMkS_same A A' cap cap' l hl _ (HA.out _ ?_) (HA'.out _ ?_)).mono ?_; (repeat (first | exact Below.refl _ _ | assumption | refine via0 (by assumption) ?_ | refine Below.drew ?_ | refine Qab ?_ _)); (repeat (first | exact Below.refl _ _ | assumption | refine via0 (by assumption) ?_ | refine Below.drew ?_ | refine Qab ?_ _)); rintro e w1 ⟨rfl, g1⟩)
 go_ret
 refine ⟨rfl, ?_⟩
 repeat (first | exact Below.refl _ _ | assumption | refine via0 (by assumption) ?_ | refine Below.drew ?_ | refine Qab ?_ _)
structure MC where
  row : Int
  who : Int
  epoch : Int
  last : Int
  A : Option Addr
  cap : Nat
  ms : List Mk
instance : Inhabited MC := ⟨⟨0, 0, 0, 0, none, 0, []⟩⟩
instance : Cel MC where
  k := 5
  cs x := [.int .i64 x.row, .int .i64 x.who, .int .i64 x.epoch, .int .i64 x.last, .slice x.A x.ms.length x.cap]
  len _ := rfl
  one x u hu := by simp at hu; rcases hu with rfl | rfl | rfl | rfl | rfl<;>rfl
structure PM where
  row : Int
  who : Int
  epoch : Int
  last : Int
  ms : List Mk
def MC.p (x : MC) : PM := ⟨x.row, x.who, x.epoch, x.last, x.ms⟩
def MC.right (x : MC) : Prop := I64 x.row /\ I64 x.who /\ I64 x.epoch /\ I64 x.last /\ x.ms.length <= 9223372036854775807 /\ ∀ y ∈ x.ms, y.right
def Each (w : World) (l : List MC) : Prop := ∀ x ∈ l, At w x.A x.ms
theorem Each.below {w w' : World} {l : List MC} (h : Each w l) (hw : Below w.heap.size w w') : Each w' l := fun x hx => (h x hx).below hw
theorem In.getMC {w : World} {b o : Nat} {l : List MC} (h : In w b o l) (i : Nat) (hi : i < l.length) :
 w.cell? ⟨b, o + i * 5, none⟩ = some (.int .i64 l[i].row) /\ w.cell? ⟨b, o + i * 5 + 1, none⟩ = some (.int .i64 l[i].who) /\ w.cell? ⟨b, o + i * 5 + 2, none⟩ = some (.int .i64 l[i].epoch) /\
  w.cell? ⟨b, o + i * 5 + 3, none⟩ = some (.int .i64 l[i].last) /\ w.cell? ⟨b, o + i * 5 + 4, none⟩ = some (.slice l[i].A l[i].ms.length l[i].cap) :=
 ⟨h.cell i hi (f := 0) rfl, h.cell i hi (f := 1) rfl, h.cell i hi (f := 2) rfl, h.cell i hi (f := 3) rfl, h.cell i hi (f := 4) rfl⟩
theorem infoMC : (Tryz.prog.info? 221).map (fun i => (i.zero, i.size, i.bytes)) = some (some (.agg l0IIIIS), 5, 56) := by kernel_rfl
def szM (l : List MC) : Nat := l.length + (l.map (fun x => x.ms.length)).sum
theorem sum_snoc (l : List MC) (n : Nat) (hn : n < l.length) : ((l.take (n + 1)).map (fun x => x.ms.length)).sum = ((l.take n).map (fun x => x.ms.length)).sum + l[n].ms.length := by
 rw [List.take_succ_eq_append_getElem hn, List.map_append, List.sum_append]; rfl
theorem Qgm (A : Option Addr) (cap : Nat) (l : List MC) (hl : l.length <= 9223372036854775807) (hr : ∀ x ∈ l, x.ms.length <= 9223372036854775807) (left : Int) (h0 : 0 <= left) (h1 : left <= 1048576) (w : World) (hA : At w A l) :
 Calls Tryz.prog 109 #[.slice A l.length cap, .int .i64 left] w fun e w' => (∃ r : Int, e = .returned (.int .i64 r) /\ (r < 0 ∨ (0 <= r /\ r = left - (szM l : Int)))) /\ Below w.heap.size w w' := by
 have HA := hidP hA
 have Hr := hidP hr
 clear hA hr
 by_cases h : left < (l.length : Int)
 . have g : left - (l.length : Int) < 0 := by omega
   go_enter Tryz.func109, Tryz.ntmps109
   go_wp2
   go_ret
   exact ⟨⟨-1, rfl, .inl (by omega)⟩, Below.refl _ _⟩
 . have g : ¬ left - (l.length : Int) < 0 := by omega
   go_enter Tryz.func109, Tryz.ntmps109
   go_wp2
   go_loopw [1, 5] (fun q i w' => ∃ (n : Nat) (z : Int), i = .int .i64 (n : Int) /\ q = .int .i64 z /\ n <= l.length /\ 0 <= z /\ z <= 1048576 /\ Hid (z = left - (l.length : Int) - ((((l.take n).map (fun x => x.ms.length)).sum : Nat) : Int)) /\ Below w.heap.size w w') (fun _ i _ => l.length - (intOf i).toNat)
   case atStart => exact ⟨0, _, rfl, rfl, by omega, by omega, by omega, by simp [Hid], Below.refl _ _⟩
   case round =>
    obtain ⟨n, z, rfl, rfl, hn, hz0, hz1, hz, hbl⟩ := hrel
    by_cases hlt : n < l.length
    . obtain ⟨b, o, rfl, hbs, hIn⟩ : ∃ b o, A = some ⟨b, o, none⟩ /\ b < w.heap.size /\ In w b o l := by
       rcases HA.out with h | h
       . subst h; simp at hlt
       . exact h
      obtain ⟨c0, c1, c2, c3, c4⟩ := (hIn.below hbs hbl).getMC n hlt
      have hms := Hr.out _ (List.getElem_mem hlt)
      have hsn := hidP (sum_snoc l n hlt)
      by_cases hs : z < (l[n].ms.length : Int)
      . go_wp2_with (go_at_call 138; refine (Qea _ _ _ _ _ _ _ hms z hz0 hz1 _).mono ?_; rw [if_pos hs]; rintro e w1 ⟨rfl, g1⟩)
        go_ret
        exact ⟨⟨-1, rfl, .inl (by omega)⟩, via0 g1 hbl⟩
      . have hp : ¬ z - (l[n].ms.length : Int) < 0 := by omega
        go_wp2_with (go_at_call 138; refine (Qea _ _ _ _ _ _ _ hms z hz0 hz1 _).mono ?_; rw [if_neg hs]; rintro e w1 ⟨rfl, g1⟩)
        have hz' := hz.out
        have hsn' := hsn.out
        exact ⟨⟨n + 1, z - (l[n].ms.length : Int), by go_num, rfl, by omega, by omega, by omega, by show _ = _; rw [hsn']; omega, via0 g1 hbl⟩, by simp [intOf]; omega⟩
    . have e : l.take n = l := List.take_of_length_le (by omega)
      go_wp2
      go_ret
      have hz' := hz.out
      rw [e] at hz'
      exact ⟨⟨z, rfl, .inr ⟨hz0, by rw [hz', szM]; omega⟩⟩, hbl⟩
theorem Qf5 (A A' : Option Addr) (cap cap' : Nat) (l l' : List MC) (hl : l.length <= 9223372036854775807) (hr : ∀ x ∈ l, x.ms.length <= 9223372036854775807) (hsame : l'.map MC.p = l.map MC.p) (w : World) (hA : At w A l) (hE : Each w l) (hA' : At w A' l') (hE' : Each w l') :
 Calls Tryz.prog 132 #[.slice A l.length cap, .slice A' l.length cap'] w fun e w' => e = .returned (.bool true) /\ Below w.heap.size w w' := by
 have HA := hidP hA
 have HE := hidP hE
 have HA' := hidP hA'
 have HE' := hidP hE'
 have Hr := hidP hr
 have HS := hidP hsame
 have HLL : Hid (l'.length = l.length) := by have := congrArg List.length hsame; show _ = _; simpa using this
 clear hA hE hA' hE' hr hsame
 go_enter Tryz.func132, Tryz.ntmps132
 go_wp2
 go_loopw [5] (fun i w' => ∃ (n : Nat), i = .int .i64 (n : Int) /\ n <= l.length /\ Below w.heap.size w w') (fun i _ => l.length - (intOf i).toNat)
 case atStart => exact ⟨0, rfl, by omega, Below.refl _ _⟩
 case round =>
  obtain ⟨n, rfl, hn, hbl⟩ := hrel
  by_cases hlt : n < l.length
  . have hll := HLL.out
    obtain ⟨b, o, rfl, hbs, hin⟩ : ∃ b o, A = some ⟨b, o, none⟩ /\ b < w.heap.size /\ In w b o l := by
     rcases HA.out with h | h
     . subst h; simp at hlt
     . exact h
    obtain ⟨b', o', rfl, hbs', hin'⟩ : ∃ b o, A' = some ⟨b, o, none⟩ /\ b < w.heap.size /\ In w b o l' := by
     rcases HA'.out with h | h
     . subst h; simp at hll; omega
     . exact h
    have hp : (l'[n]'(by omega)).p = l[n].p := by
     have h1 : (l'.map MC.p)[n]'(by simp; omega) = (l.map MC.p)[n]'(by simpa using hlt) := by simp only [HS.out]
     simpa using h1
    obtain ⟨c0, c1, c2, c3, c4⟩ := (hin.below hbs hbl).getMC n hlt
    obtain ⟨d0, d1, d2, d3, d4⟩ := (hin'.below hbs' hbl).getMC n (by omega)
    have hx := (HE.out _ (List.getElem_mem hlt)).below hbl
    have hx' := (HE'.out _ (List.getElem_mem (show n < l'.length by omega))).below hbl
    have hmsl := Hr.out _ (List.getElem_mem hlt)
    rw [show (l'[n]'(by omega)).row = l[n].row from congrArg PM.row hp] at d0
    rw [show (l'[n]'(by omega)).who = l[n].who from congrArg PM.who hp] at d1
    rw [show (l'[n]'(by omega)).epoch = l[n].epoch from congrArg PM.epoch hp] at d2
    rw [show (l'[n]'(by omega)).last = l[n].last from congrArg PM.last hp] at d3
    rw [show (l'[n]'(by omega)).ms = l[n].ms from congrArg PM.ms hp] at d4 hx'
    generalize (l'[n]'(by omega)).A = aa at d4 hx'
    generalize (l'[n]'(by omega)).cap = cc at d4
    generalize l[n] = x at c0 c1 c2 c3 c4 d0 d1 d2 d3 d4 hx hx' hmsl
    obtain ⟨row, who, epoch, last, xA, xc, ms⟩ := x
    simp only at c0 c1 c2 c3 c4 d0 d1 d2 d3 d4 hx hx' hmsl
    have hx := hidP hx
    have hx' := hidP hx'
    clear hp hll
    have hb1 : b < wr.heap.size := Nat.lt_of_lt_of_le hbs hbl.size
    have hb2 : b' < wr.heap.size := Nat.lt_of_lt_of_le hbs' hbl.size
    have hi0 : (0 : Int) <= (n : Int) := by omega
    have hi1 : (n : Int) < (l.length : Int) := by omega
    go_wp2
    go_region_held3 (fun w' => w'.cell? ⟨b, o + n * 5, none⟩ = some (.int .i64 row) /\ w'.cell? ⟨b, o + n * 5 + 1, none⟩ = some (.int .i64 who) /\ w'.cell? ⟨b, o + n * 5 + 2, none⟩ = some (.int .i64 epoch) /\ w'.cell? ⟨b, o + n * 5 + 3, none⟩ = some (.int .i64 last) /\ w'.cell? ⟨b, o + n * 5 + 4, none⟩ = some (.slice xA ms.length xc) /\
     w'.cell? ⟨b', o' + n * 5, none⟩ = some (.int .i64 row) /\ w'.cell? ⟨b', o' + n * 5 + 1, none⟩ = some (.int .i64 who) /\ w'.cell? ⟨b', o' + n * 5 + 2, none⟩ = some (.int .i64 epoch) /\ w'.cell? ⟨b', o' + n * 5 + 3, none⟩ = some (.int .i64 last) /\ w'.cell? ⟨b', o' + n * 5 + 4, none⟩ = some (.slice aa ms.length cc))
     (first | (go_split_ands; refine ⟨?_, ?_, ?_, ?_, ?_, ?_, ?_, ?_, ?_, ?_⟩<;>first | assumption | exact (k1 _ _ hb1).trans (by assumption) | exact (k1 _ _ hb2).trans (by assumption)) | go_keep)
     (first
      | (go_at_call 152; refine (Qg6 row who epoch last xA aa xc cc ms hmsl _ (hx.out.below (Below.drew (Below.refl _ _))) (hx'.out.below (Below.drew (Below.refl _ _)))).mono ?_; rintro e w1 ⟨rfl, g1⟩; obtain ⟨k1, m1⟩ := Qax g1))
    all_goals
     go_wp2
     exact ⟨⟨n + 1, by go_num, by omega, via0 g1 hbl.drew⟩, by simp [intOf]; omega⟩
  . go_wp2
    go_ret
    exact ⟨rfl, hbl⟩
theorem cellsMC : Tryz.prog.cellsOf 216 = 5 := by kernel_rfl
theorem openMC {H : Type} {enc : TypeId × Value -> H} {w : World} {base n : Nat} {spare : Nat -> Bool} {held : Bool} {a : Addr} {cs : List Value} {y : DataW H × List MemPlace}
 (h1 : w.cells? base a 5 = some cs) (h2 : DataW.trod enc Tryz.prog w base spare held n 216 cs = some y) :
 ∃ x : MC, (x.right /\ At w x.A x.ms) /\ a.spot = none /\ a.block < w.heap.size /\ ∀ j v, (Cel.cs x)[j]? = some v -> w.cell? ⟨a.block, a.off + j, none⟩ = some v := by
 obtain ⟨_, hlen, hc⟩ := World.cells?_some h1
 match cs, hlen with
 | [c0, c1, c2, c3, c4], _ =>
  obtain ⟨m, hf⟩ := Qbi Tryz.underlying216 (by kernel_rfl) h2
  obtain ⟨y0, g0⟩ := hf 0 _ rfl _ rfl
  obtain ⟨y1, g1⟩ := hf 1 _ rfl _ rfl
  obtain ⟨y2, g2⟩ := hf 2 _ rfl _ rfl
  obtain ⟨y3, g3⟩ := hf 3 _ rfl _ rfl
  obtain ⟨y4, g4⟩ := hf 4 _ rfl _ rfl
  obtain ⟨row, e0, _, w0⟩ := DataW.trod_int Tryz.underlying3 g0
  obtain ⟨who, e1, _, w1⟩ := DataW.trod_int Tryz.underlying3 g1
  obtain ⟨epoch, e2, _, w2⟩ := DataW.trod_int Tryz.underlying3 g2
  obtain ⟨last, e3, _, w3⟩ := DataW.trod_int Tryz.underlying3 g3
  simp at e0 e1 e2 e3
  subst e0 e1 e2 e3
  have q0 := hc 0 (by omega)
  have hsp : a.spot = none := by
   cases hs : a.spot with
   | none => rfl
   | some s => exfalso; simp [Addr.add, World.cell?, hs] at q0; split at q0<;>simp at q0
  have hlt : a.block < w.heap.size := by
   rw [show a.add 0 = a from rfl] at q0
   unfold World.cell? at q0
   cases hh : w.heap[a.block]? with
   | none => simp [hh] at q0
   | some ob => exact (Array.getElem?_eq_some_iff.1 hh).1
  obtain ⟨A, cap, l, rfl, hl, hR, hat⟩ : ∃ (A : Option Addr) (cap : Nat) (l : List Mk), c4 = .slice A l.length cap /\ l.length <= 9223372036854775807 /\ (∀ x ∈ l, x.right) /\ At w A l := by
   rcases open_slice Tryz.underlying214 g4 with ⟨e2, _⟩ | ⟨a, len, cap, m, n', D, Pl, e2, _, hl, hm, hmm, _, hx⟩
   . simp at e2
     subst e2
     exact ⟨none, 0, [], rfl, by simp, by simp, .inl rfl⟩
   . simp at e2
     subst e2
     have hle : len <= m := by rw [hmm]; split<;>omega
     rw [cellsMk] at hx
     obtain ⟨X, hX⟩ := choose_lt (α := Mk) (p := fun i x => x.right /\ (a.add (i * 2)).spot = none /\ (a.add (i * 2)).block < w.heap.size /\ ∀ j v, (Cel.cs x)[j]? = some v -> w.cell? ⟨(a.add (i * 2)).block, (a.add (i * 2)).off + j, none⟩ = some v)
      (n := len) (fun i hi => by obtain ⟨cs', h1, h2⟩ := hx i (by omega); exact openMk h1 h2)
     obtain ⟨l, rfl, hR, hat⟩ := Qdo (α := Mk) (by decide) (R := Mk.right) hX
     exact ⟨some a, cap, l, rfl, by simp [maxLen] at hm ⊢; omega, hR, hat⟩
  refine ⟨⟨row, who, epoch, last, A, cap, l⟩, ⟨⟨Qa8 w0, Qa8 w1, Qa8 w2, Qa8 w3, hl, hR⟩, hat⟩, hsp, hlt, ?_⟩
  intro j v hv
  have hj : j < 5 := (List.getElem?_eq_some_iff.1 hv).1
  have q := hc j hj
  have e : a.add j = ⟨a.block, a.off + j, none⟩ := by
   obtain ⟨b, o, s⟩ := a
   simp only at hsp
   subst hsp
   exact Addr.add_mid b o j
  rw [e] at q
  rw [q]
  exact hv
theorem Qfh {H : Type} {enc : TypeId × Value -> H} {W : World} {base n : Nat} {spare : Nat -> Bool} {held : Bool} {c : Value} {y : DataW H × List MemPlace}
 (g : DataW.trod enc Tryz.prog W base spare held n 88 [c] = some y) :
 ∃ (A : Option Addr) (cap : Nat) (l : List MC), c = .slice A l.length cap /\ l.length <= 9223372036854775807 /\ (∀ x ∈ l, x.right) /\ At W A l /\ Each W l := by
 rcases open_slice Tryz.underlying88 g with ⟨e2, _⟩ | ⟨a, len, cap, m, n', D, Pl, e2, _, hl, hm, hmm, _, hx⟩
 . simp at e2
   subst e2
   exact ⟨none, 0, [], rfl, by simp, by simp, .inl rfl, by simp [Each]⟩
 . simp at e2
   subst e2
   have hle : len <= m := by rw [hmm]; split<;>omega
   rw [cellsMC] at hx
   obtain ⟨X, hX⟩ := choose_lt (α := MC) (p := fun i x => (x.right /\ At W x.A x.ms) /\ (a.add (i * 5)).spot = none /\ (a.add (i * 5)).block < W.heap.size /\ ∀ j v, (Cel.cs x)[j]? = some v -> W.cell? ⟨(a.add (i * 5)).block, (a.add (i * 5)).off + j, none⟩ = some v)
    (n := len) (fun i hi => by obtain ⟨cs', h1, h2⟩ := hx i (by omega); exact openMC h1 h2)
   obtain ⟨l, rfl, hR, hat⟩ := Qdo (α := MC) (by decide) (R := fun x => x.right /\ At W x.A x.ms) hX
   exact ⟨some a, cap, l, rfl, by simp [maxLen] at hm ⊢; omega, fun x hx => (hR x hx).1, hat, fun x hx => (hR x hx).2⟩
end Go.Proofs.YtkmkldjipihceaaGreat.Gen
