/-
  The laws' eqItem, eqItemS and eqRow: what holds the same items is told alike. No condition.
-/
import Derived.Test.YtkmkldjipihceaaGreatDkV
set_option linter.unusedVariables false
set_option linter.unusedSimpArgs false
set_option maxRecDepth 100000
set_option maxHeartbeats 8000000
set_option maxRecDepth 100000
set_option maxHeartbeats 8000000
namespace Go.Proofs.YtkmkldjipihceaaGreat.Items
open ChangeShapes WideShapes ChangeAt RowKit Base
theorem Qib (off who time : Int) (k t : ByteArray) (w : World) :
 Calls Tryz.prog 187 #[.agg (Qbf off k t who time), .agg (Qbf off k t who time)] w fun e w' => e = .returned (.bool true) /\ Below w.heap.size w w' := by
 go_enter Tryz.func187, Tryz.ntmps187
 go_wp2
 go_ret
 exact ⟨rfl, by repeat (first | exact Below.refl _ _ | refine via0 (by assumption) ?_ | refine Below.drew ?_ | refine Qab ?_ _)⟩
theorem Qg8 (A A' : Option Addr) (cap cap' : Nat) (l : List It) (hl : l.length <= 9223372036854775807) (w : World)
 (hA : l = [] ∨ ∃ b o, A = some ⟨b, o, none⟩ /\ b < w.heap.size /\ In w b o l) (hA' : l = [] ∨ ∃ b o, A' = some ⟨b, o, none⟩ /\ b < w.heap.size /\ In w b o l) :
 Calls Tryz.prog 173 #[.slice A l.length cap, .slice A' l.length cap'] w fun e w' => e = .returned (.bool true) /\ Below w.heap.size w w' := by
 have HA : Hid (l = [] ∨ ∃ b o, A = some ⟨b, o, none⟩ /\ b < w.heap.size /\ In w b o l) := hA
 have HA' : Hid (l = [] ∨ ∃ b o, A' = some ⟨b, o, none⟩ /\ b < w.heap.size /\ In w b o l) := hA'
 clear hA hA'
 go_enter Tryz.func173, Tryz.ntmps173
 go_wp2
 go_loopw [5] (fun i w' => ∃ (n : Nat), i = .int .i64 (n : Int) /\ n <= l.length /\ Below w.heap.size w w') (fun i _ => l.length - (intOf i).toNat)
 case atStart => exact ⟨0, rfl, by omega, Below.refl _ _⟩
 case round =>
  obtain ⟨n, rfl, hn, hbl⟩ := hrel
  by_cases hlt : n < l.length
  . obtain ⟨b, o, rfl, hbs, hin⟩ : ∃ b o, A = some ⟨b, o, none⟩ /\ b < w.heap.size /\ In w b o l := by
     rcases HA.out with h | h
     . subst h; simp at hlt
     . exact h
    obtain ⟨b', o', rfl, hbs', hin'⟩ : ∃ b o, A' = some ⟨b, o, none⟩ /\ b < w.heap.size /\ In w b o l := by
     rcases HA'.out with h | h
     . subst h; simp at hlt
     . exact h
    obtain ⟨c0, c1, c2, c3, c4⟩ := (hin.below hbs hbl).get n hlt
    obtain ⟨d0, d1, d2, d3, d4⟩ := (hin'.below hbs' hbl).get n hlt
    have hb1 : b < wr.heap.size := Nat.lt_of_lt_of_le hbs hbl.size
    have hb2 : b' < wr.heap.size := Nat.lt_of_lt_of_le hbs' hbl.size
    have hi0 : (0 : Int) <= (n : Int) := by omega
    have hi1 : (n : Int) < (l.length : Int) := by omega
    go_wp2
    go_region_held3 (fun w' => w'.cell? ⟨b, o + n * 5, none⟩ = some (.int .i64 l[n].off) /\ w'.cell? ⟨b, o + n * 5 + 1, none⟩ = some (.string l[n].key) /\ w'.cell? ⟨b, o + n * 5 + 2, none⟩ = some (.string l[n].text) /\ w'.cell? ⟨b, o + n * 5 + 3, none⟩ = some (.int .i64 l[n].who) /\ w'.cell? ⟨b, o + n * 5 + 4, none⟩ = some (.int .i64 l[n].time) /\
     w'.cell? ⟨b', o' + n * 5, none⟩ = some (.int .i64 l[n].off) /\ w'.cell? ⟨b', o' + n * 5 + 1, none⟩ = some (.string l[n].key) /\ w'.cell? ⟨b', o' + n * 5 + 2, none⟩ = some (.string l[n].text) /\ w'.cell? ⟨b', o' + n * 5 + 3, none⟩ = some (.int .i64 l[n].who) /\ w'.cell? ⟨b', o' + n * 5 + 4, none⟩ = some (.int .i64 l[n].time) /\ wr.heap.size <= w'.heap.size)
     (first | (go_split_ands; refine ⟨?_, ?_, ?_, ?_, ?_, ?_, ?_, ?_, ?_, ?_, ?_⟩<;>first | assumption | exact (k1 _ _ hb1).trans (by assumption) | exact (k1 _ _ hb2).trans (by assumption) | exact s1 | (simp; done)) | go_keep)
     (first
      | (go_at_call 187; refine (Qib _ _ _ _ _ _).mono ?_; rintro e w1 ⟨rfl, g1⟩; obtain ⟨k1, m1⟩ := Qax g1; have s1 := g1.size))
    all_goals
     go_wp2
     exact ⟨⟨n + 1, by go_num, by omega, via0 g1 hbl.drew⟩, by simp [intOf]; omega⟩
  . go_wp2
    go_ret
    exact ⟨rfl, hbl⟩
theorem eqRow_same (start next : Int) (A A' : Option Addr) (cap cap' : Nat) (l : List It) (hl : l.length <= 9223372036854775807) (w : World)
 (hA : l = [] ∨ ∃ b o, A = some ⟨b, o, none⟩ /\ b < w.heap.size /\ In w b o l) (hA' : l = [] ∨ ∃ b o, A' = some ⟨b, o, none⟩ /\ b < w.heap.size /\ In w b o l) :
 Calls Tryz.prog 151 #[.agg (Qap start next A l.length cap), .agg (Qap start next A' l.length cap')] w fun e w' => e = .returned (.bool true) /\ Below w.heap.size w w' := by
 have up : ∀ {A : Option Addr}, (l = [] ∨ ∃ b o, A = some ⟨b, o, none⟩ /\ b < w.heap.size /\ In w b o l) -> ∀ W : World, Below w.heap.size w W -> l = [] ∨ ∃ b o, A = some ⟨b, o, none⟩ /\ b < W.heap.size /\ In W b o l := fun hA W hW => by
  rcases hA with h | ⟨b, o, h1, h2, h3⟩
  . exact .inl h
  . exact .inr ⟨b, o, h1, Nat.lt_of_lt_of_le h2 hW.size, h3.below h2 hW⟩
 have HA : Hid (∀ W : World, Below w.heap.size w W -> l = [] ∨ ∃ b o, A = some ⟨b, o, none⟩ /\ b < W.heap.size /\ In W b o l) := up hA
 have HA' : Hid (∀ W : World, Below w.heap.size w W -> l = [] ∨ ∃ b o, A' = some ⟨b, o, none⟩ /\ b < W.heap.size /\ In W b o l) := up hA'
 clear hA hA' up
 go_enter Tryz.func151, Tryz.ntmps151
 go_wp2_with (go_at_call 173; refine (Qg8 A A' cap cap' l hl _ (HA.out _ ?_) (HA'.out _ ?_)).mono ?_; (repeat (first | exact Below.refl _ _ | refine via0 (by assumption) ?_ | refine Below.drew ?_ | refine Qab ?_ _)); (repeat (first | exact Below.refl _ _ | refine via0 (by assumption) ?_ | refine Below.drew ?_ | refine Qab ?_ _)); rintro e w1 ⟨rfl, g1⟩)
 go_ret
 refine ⟨rfl, ?_⟩
 repeat (first | exact Below.refl _ _ | refine via0 (by assumption) ?_ | refine Below.drew ?_ | refine Qab ?_ _)
open Joins Deep
instance : Inhabited It := ⟨⟨0, ⟨#[]⟩, ⟨#[]⟩, 0, 0⟩⟩
abbrev At (w : World) (A : Option Addr) (l : List It) : Prop := l = [] ∨ ∃ b o, A = some ⟨b, o, none⟩ /\ b < w.heap.size /\ In w b o l
theorem At.below {w w' : World} {A : Option Addr} {l : List It} (h : At w A l) (hw : Below w.heap.size w w') : At w' A l :=
 h.imp id fun ⟨b, o, e, hb, hi⟩ => ⟨b, o, e, Nat.lt_of_lt_of_le hb hw.size, hi.below hb hw⟩
def I64 (x : Int) : Prop := -9223372036854775808 <= x /\ x <= 9223372036854775807
theorem Qa8 {x : Int} (hx : (Lit.int .i64 x).wf = true) : I64 x := by simpa [I64, Lit.wf, IntKind.min, IntKind.max, IntKind.signed, IntKind.bits] using hx
def It.right (x : It) : Prop := I64 x.off /\ I64 x.who /\ I64 x.time /\ x.key.size <= 9223372036854775807 /\ x.text.size <= 9223372036854775807
theorem Qbi {H : Type} {enc : TypeId × Value -> H} {P : Program} {w : World} {base : Nat} {spare : Nat -> Bool} {held : Bool} {t : TypeId} {fs : Array Field} {cs : List Value} {fuel : Nat} {x : DataW H × List MemPlace}
 (hs : P.underlying t = some (.struct fs)) (hone : oneCellFields P fs = true) (h : DataW.trod enc P w base spare held fuel t cs = some x) :
 ∃ n, ∀ (i : Nat) (f : Field), fs[i]? = some f -> ∀ c, cs[i]? = some c -> ∃ y, DataW.trod enc P w base spare held n f.type [c] = some y := by
 obtain ⟨xs, n, _, _, hl, hlen, hf⟩ := DataW.trod_struct hs h
 refine ⟨n, fun i f hi c hc => ?_⟩
 obtain ⟨o, k⟩ := hone_of hone i f hi
 have hlt : i < fs.size := (Array.getElem?_eq_some_iff.1 hi).1
 have g := hf i f hi
 rw [o, k] at g
 have e : cs.drop i = c :: cs.drop (i + 1) := by
  obtain ⟨h1, h2⟩ := List.getElem?_eq_some_iff.1 hc
  rw [List.drop_eq_getElem_cons h1, h2]
 rw [e] at g
 exact ⟨xs[i]'(by omega), by rw [← List.getElem?_eq_getElem]; simpa using g⟩
theorem cellsItem : Tryz.prog.cellsOf 249 = 5 := by kernel_rfl
theorem cellsRow : Tryz.prog.cellsOf 212 = 3 := by kernel_rfl
theorem item_of {H : Type} {enc : TypeId × Value -> H} {w : World} {base n : Nat} {spare : Nat -> Bool} {held : Bool} {a : Addr} {cs : List Value} {y : DataW H × List MemPlace}
 (h1 : w.cells? base a 5 = some cs) (h2 : DataW.trod enc Tryz.prog w base spare held n 249 cs = some y) :
 ∃ x : It, x.right /\ a.spot = none /\ a.block < w.heap.size /\ ∀ j v, x.cs[j]? = some v -> w.cell? ⟨a.block, a.off + j, none⟩ = some v := by
 obtain ⟨_, hlen, hc⟩ := World.cells?_some h1
 match cs, hlen with
 | [c0, c1, c2, c3, c4], _ =>
  obtain ⟨m, hf⟩ := Qbi Tryz.underlying249 (by kernel_rfl) h2
  obtain ⟨y0, g0⟩ := hf 0 _ rfl _ rfl
  obtain ⟨y1, g1⟩ := hf 1 _ rfl _ rfl
  obtain ⟨y2, g2⟩ := hf 2 _ rfl _ rfl
  obtain ⟨y3, g3⟩ := hf 3 _ rfl _ rfl
  obtain ⟨y4, g4⟩ := hf 4 _ rfl _ rfl
  obtain ⟨off, e0, _, w0⟩ := DataW.trod_int Tryz.underlying3 g0
  obtain ⟨k, e1, _, w1⟩ := DataW.trod_string Tryz.underlying9 g1
  obtain ⟨t, e2, _, w2⟩ := DataW.trod_string Tryz.underlying9 g2
  obtain ⟨who, e3, _, w3⟩ := DataW.trod_int Tryz.underlying3 g3
  obtain ⟨time, e4, _, w4⟩ := DataW.trod_int Tryz.underlying3 g4
  simp at e0 e1 e2 e3 e4
  subst e0 e1 e2 e3 e4
  have q0 := hc 0 (by omega)
  have hsp : a.spot = none := by
   cases hs : a.spot with
   | none => rfl
   | some s => exfalso; simp [Addr.add, World.cell?, hs] at q0; split at q0<;>simp at q0
  have hlt : a.block < w.heap.size := by
   rw [show a.add 0 = a from rfl] at q0
   unfold World.cell? at q0
   cases hh : w.heap[a.block]? with
   | none => simp [hh] at q0
   | some ob => exact (Array.getElem?_eq_some_iff.1 hh).1
  refine ⟨⟨off, k, t, who, time⟩, ⟨Qa8 w0, Qa8 w3, Qa8 w4, by simpa [maxLen] using w1, by simpa [maxLen] using w2⟩, hsp, hlt, ?_⟩
  intro j v hv
  have hj : j < 5 := (List.getElem?_eq_some_iff.1 hv).1
  have q := hc j hj
  have e : a.add j = ⟨a.block, a.off + j, none⟩ := by
   obtain ⟨b, o, s⟩ := a
   simp only at hsp
   subst hsp
   exact Addr.add_mid b o j
  rw [e] at q
  rw [q]
  exact hv
end Go.Proofs.YtkmkldjipihceaaGreat.Items
namespace Go.Proofs.YtkmkldjipihceaaGreat.Gen
open ChangeShapes WideShapes ChangeAt RowKit Joins Deep Base
open Items (It)
instance : Cel It where
  k := 5
  cs := It.cs
  len _ := rfl
  one x u hu := by simp [It.cs] at hu; rcases hu with rfl | rfl | rfl | rfl | rfl<;>rfl
structure RC where
  start : Int
  next : Int
  A : Option Addr
  cap : Nat
  its : List It
instance : Inhabited RC := ⟨⟨0, 0, none, 0, []⟩⟩
instance : Cel RC where
  k := 3
  cs x := [.int .i64 x.start, .int .i64 x.next, .slice x.A x.its.length x.cap]
  len _ := rfl
  one x u hu := by simp at hu; rcases hu with rfl | rfl | rfl<;>rfl
structure PR where
  start : Int
  next : Int
  its : List It
def RC.p (x : RC) : PR := ⟨x.start, x.next, x.its⟩
def RC.right (x : RC) : Prop := I64 x.start /\ I64 x.next /\ x.its.length <= 9223372036854775807 /\ ∀ y ∈ x.its, y.right
def EachR (w : World) (l : List RC) : Prop := ∀ x ∈ l, At w x.A x.its
theorem EachR.below {w w' : World} {l : List RC} (h : EachR w l) (hw : Below w.heap.size w w') : EachR w' l := fun x hx => (h x hx).below hw
def rowP (w : World) (x : RC) (S : Nat -> Prop) : Prop := Sub w x.A x.its S
theorem Qa7 : Firm rowP := fun w w' x S T h k hd => Sub.offp h k hd
theorem rowP_each {S : Nat -> Prop} {w : World} {a : Option Addr} {l : List RC} (h : Own rowP w a l S) : EachR w l := h.each (fun x S hx => Sub.at hx)
theorem In.getRC {w : World} {b o : Nat} {l : List RC} (h : In w b o l) (i : Nat) (hi : i < l.length) :
 w.cell? ⟨b, o + i * 3, none⟩ = some (.int .i64 l[i].start) /\ w.cell? ⟨b, o + i * 3 + 1, none⟩ = some (.int .i64 l[i].next) /\ w.cell? ⟨b, o + i * 3 + 2, none⟩ = some (.slice l[i].A l[i].its.length l[i].cap) :=
 ⟨h.cell i hi (f := 0) rfl, h.cell i hi (f := 1) rfl, h.cell i hi (f := 2) rfl⟩
theorem infoRC : (Tryz.prog.info? 183).map (fun i => (i.zero, i.size, i.bytes)) = some (some (.agg l0IIS), 3, 40) := by kernel_rfl
def szRC (x : RC) : Nat := x.its.length + Items.tot x.its
theorem szRowS_any (A : Option Addr) (cap : Nat) (l : List RC) (hl : l.length <= 9223372036854775807) (hr : ∀ x ∈ l, x.right) (left : Int) (h0 : 0 <= left) (h1 : left <= 1048576) (w : World) (hA : At w A l) (hE : EachR w l) :
 Calls Tryz.prog 108 #[.slice A l.length cap, .int .i64 left] w fun e w' => (∃ r : Int, e = .returned (.int .i64 r) /\ (r < 0 ∨ (0 <= r /\ r = left - (l.length : Int) - (Qat szRC l : Int)))) /\ Below w.heap.size w w' := by
 have HA := hidP hA
 have Hr := hidP hr
 have HE := hidP hE
 clear hA hr hE
 by_cases h : left < (l.length : Int)
 . have g : left - (l.length : Int) < 0 := by omega
   go_enter Tryz.func108, Tryz.ntmps108
   go_wp2
   go_ret
   exact ⟨⟨-1, rfl, .inl (by omega)⟩, Below.refl _ _⟩
 . have g : ¬ left - (l.length : Int) < 0 := by omega
   go_enter Tryz.func108, Tryz.ntmps108
   go_wp2
   go_loopw [1, 5] (fun q i w' => ∃ (n : Nat) (z : Int), i = .int .i64 (n : Int) /\ q = .int .i64 z /\ n <= l.length /\ 0 <= z /\ z <= 1048576 /\ Hid (z = left - (l.length : Int) - (Qat szRC (l.take n) : Int)) /\ Below w.heap.size w w') (fun _ i _ => l.length - (intOf i).toNat)
   case atStart => exact ⟨0, _, rfl, rfl, by omega, by omega, by omega, by simp [Hid, Qat], Below.refl _ _⟩
   case round =>
    obtain ⟨n, z, rfl, rfl, hn, hz0, hz1, hz, hbl⟩ := hrel
    by_cases hlt : n < l.length
    . obtain ⟨b, o, rfl, hbs, hIn⟩ : ∃ b o, A = some ⟨b, o, none⟩ /\ b < w.heap.size /\ In w b o l := by
       rcases HA.out with h | h
       . subst h; simp at hlt
       . exact h
      obtain ⟨c0, c1, c2⟩ := (hIn.below hbs hbl).getRC n hlt
      have hms := hidP (Hr.out _ (List.getElem_mem hlt))
      have hat := hidP ((HE.out _ (List.getElem_mem hlt)).below hbl)
      have hsn := hidP (Qbl szRC l n hlt)
      go_wp2_with fail
      refine (Items.szRow_at _ _ _ _ _ hms.out.2.2.1 (fun x hx => (hms.out.2.2.2 x hx).2.2.2) z hz0 hz1 _ hat.out).mono ?_
      rintro e w1 ⟨r, rfl, hr, g1⟩
      rcases hr with hr | ⟨hr0, hr1⟩
      . go_wp2
        go_ret
        exact ⟨⟨-1, rfl, .inl (by omega)⟩, via0 g1 hbl⟩
      . have hp : ¬ r < 0 := by omega
        have HR1 := hidP hr1
        clear hr1
        go_wp2
        have hz' := hz.out
        have hsn' := hsn.out
        have hr' := HR1.out
        exact ⟨⟨n + 1, r, by go_num, rfl, by omega, by omega, by omega, by show _ = _; rw [hsn', hr', hz']; simp only [szRC]; omega, via0 g1 hbl⟩, by simp [intOf]; omega⟩
    . have e : l.take n = l := List.take_of_length_le (by omega)
      go_wp2
      go_ret
      have hz' := hz.out
      rw [e] at hz'
      exact ⟨⟨z, rfl, .inr ⟨hz0, hz'⟩⟩, hbl⟩
theorem toRowS_any (A : Option Addr) (cap : Nat) (l : List RC) (hl : l.length <= 1048576) (hr : ∀ x ∈ l, x.its.length <= 1048576) (w : World) (hA : At w A l) (hE : EachR w l) :
 Calls Tryz.prog 119 #[.slice A l.length cap] w fun e w' => e = .returned (.slice (some ⟨w.heap.size, 0, none⟩) l.length l.length) /\ Below w.heap.size w w' /\ ∃ l', Grow rowP w' w.heap.size l.length l' /\ l'.map RC.p = l.map RC.p := by
 have HA := hidP hA
 have HE := hidP hE
 have Hr := hidP hr
 clear hA hE hr
 have hmk := Qbg (P := Tryz.prog) Tryz.underlying54 infoRC (by omega) l.length hl
 go_enter Tryz.func119, Tryz.ntmps119
 go_wp2
 go_loopw [4] (fun i w' => ∃ (n : Nat) (pre : List RC), i = .int .i64 (n : Int) /\ n <= l.length /\ Below w.heap.size w w' /\ w.heap.size < w'.heap.size /\ Hid (pre.length = n) /\ Hid (Grow rowP w' w.heap.size l.length pre) /\ Hid (pre.map RC.p = (l.take n).map RC.p)) (fun i _ => l.length - (intOf i).toNat)
 case atStart => exact ⟨0, [], rfl, by omega, by repeat (first | exact Below.refl _ _ | assumption | refine via0 (by assumption) ?_ | refine Below.drew ?_ | refine Qab ?_ _), by simp, rfl, Grow.start (by simp) (Qa0 w _ _ _ _), by simp [Hid]⟩
 case round =>
  obtain ⟨n, pre, rfl, hn, hbl, hsz, hpl, hgr, hsame⟩ := hrel
  by_cases hlt : n < l.length
  . obtain ⟨b, o, rfl, hbs, hIn⟩ : ∃ b o, A = some ⟨b, o, none⟩ /\ b < w.heap.size /\ In w b o l := by
     rcases HA.out with h | h
     . subst h; simp at hlt
     . exact h
    obtain ⟨c0, c1, c2⟩ := (hIn.below hbs hbl).getRC n hlt
    have hms := Hr.out _ (List.getElem_mem hlt)
    have hat := hidP ((HE.out _ (List.getElem_mem hlt)).below hbl)
    obtain ⟨⟨v0, d0⟩, f0⟩ := Qah (f := 0) hgr.out.th hlt (by decide)
    obtain ⟨⟨v1, d1⟩, f1⟩ := Qah (f := 1) hgr.out.th hlt (by decide)
    obtain ⟨⟨v2, d2⟩, f2⟩ := Qah (f := 2) hgr.out.th hlt (by decide)
    simp only [Nat.zero_add, Nat.add_zero, show Cel.k RC = 3 from rfl] at d0 f0 d1 f1 d2 f2
    go_wp2_with (go_at_call 142; refine (Items.toRow_any _ _ _ _ _ hms _ hat.out).mono ?_; rintro e w1 ⟨bx, rfl, g1, hbx, hbx', hix, htx⟩; obtain ⟨k1, m1⟩ := Qax g1; have s1 := g1.size; have hix := hidP hix; have htx := hidP htx)
    have hpl' := hpl.out
    have hst := hgr.out.snoc Qa7 (by omega) g1 (y := (⟨l[n].start, l[n].next, some ⟨bx, 0, none⟩, l[n].its.length, l[n].its⟩ : RC)) (S := fun x => x = bx) (.inr ⟨bx, 0, rfl, rfl, hbx', hix.out, htx.out⟩) (fun x hx => by subst hx; exact ⟨hbx, hbx'⟩)
    rw [hpl'] at hst
    refine ⟨⟨n + 1, _, by go_num, by omega, ?_, by simp; omega, ?_, hst, ?_⟩, by simp [intOf]; omega⟩
    . exact ((((via0 g1 hbl).setCell (Nat.le_refl _) _).setCell (Nat.le_refl _) _).setCell (Nat.le_refl _) _)
    . show _ = _; simp [hpl']
    . show _ = _
      rw [List.map_append, hsame.out, List.take_succ_eq_append_getElem hlt, List.map_append]
      rfl
  . have e : l.take n = l := List.take_of_length_le (by omega)
    go_wp2
    go_ret
    exact ⟨rfl, hbl, pre, hgr.out, by rw [hsame.out, e]⟩
theorem Qh8 (A A' : Option Addr) (cap cap' : Nat) (l l' : List RC) (hl : l.length <= 9223372036854775807) (hr : ∀ x ∈ l, x.its.length <= 9223372036854775807) (hsame : l'.map RC.p = l.map RC.p) (w : World) (hA : At w A l) (hE : EachR w l) (hA' : At w A' l') (hE' : EachR w l') :
 Calls Tryz.prog 131 #[.slice A l.length cap, .slice A' l.length cap'] w fun e w' => e = .returned (.bool true) /\ Below w.heap.size w w' := by
 have HA := hidP hA
 have HE := hidP hE
 have HA' := hidP hA'
 have HE' := hidP hE'
 have Hr := hidP hr
 have HS := hidP hsame
 have HLL : Hid (l'.length = l.length) := by have := congrArg List.length hsame; show _ = _; simpa using this
 clear hA hE hA' hE' hr hsame
 go_enter Tryz.func131, Tryz.ntmps131
 go_wp2
 go_loopw [5] (fun i w' => ∃ (n : Nat), i = .int .i64 (n : Int) /\ n <= l.length /\ Below w.heap.size w w') (fun i _ => l.length - (intOf i).toNat)
 case atStart => exact ⟨0, rfl, by omega, Below.refl _ _⟩
 case round =>
  obtain ⟨n, rfl, hn, hbl⟩ := hrel
  by_cases hlt : n < l.length
  . have hll := HLL.out
    obtain ⟨b, o, rfl, hbs, hin⟩ : ∃ b o, A = some ⟨b, o, none⟩ /\ b < w.heap.size /\ In w b o l := by
     rcases HA.out with h | h
     . subst h; simp at hlt
     . exact h
    obtain ⟨b', o', rfl, hbs', hin'⟩ : ∃ b o, A' = some ⟨b, o, none⟩ /\ b < w.heap.size /\ In w b o l' := by
     rcases HA'.out with h | h
     . subst h; simp at hll; omega
     . exact h
    have hp : (l'[n]'(by omega)).p = l[n].p := by
     have h1 : (l'.map RC.p)[n]'(by simp; omega) = (l.map RC.p)[n]'(by simpa using hlt) := by simp only [HS.out]
     simpa using h1
    obtain ⟨c0, c1, c2⟩ := (hin.below hbs hbl).getRC n hlt
    obtain ⟨d0, d1, d2⟩ := (hin'.below hbs' hbl).getRC n (by omega)
    have hat := HE.out _ (List.getElem_mem hlt)
    have hat' := HE'.out _ (List.getElem_mem (show n < l'.length by omega))
    have hms := Hr.out _ (List.getElem_mem hlt)
    generalize l'[n]'(by omega) = y at hp d0 d1 d2 hat'
    generalize l[n] = x at hp c0 c1 c2 hat hms
    obtain ⟨yst, yne, yA, yc, yi⟩ := y
    obtain ⟨st, ne, xA, xc, xi⟩ := x
    simp only [RC.p, PR.mk.injEq] at hp
    obtain ⟨rfl, rfl, rfl⟩ := hp
    simp only at c0 c1 c2 d0 d1 d2 hat hat' hms
    have Hat := hidP (hat.below hbl)
    have Hat' := hidP (hat'.below hbl)
    clear hat hat' hll
    have hb1 : b < wr.heap.size := Nat.lt_of_lt_of_le hbs hbl.size
    have hb2 : b' < wr.heap.size := Nat.lt_of_lt_of_le hbs' hbl.size
    have hi0 : (0 : Int) <= (n : Int) := by omega
    have hi1 : (n : Int) < (l.length : Int) := by omega
    go_wp2
    go_region_held3 (fun w' => w'.cell? ⟨b, o + n * 3, none⟩ = some (.int .i64 yst) /\ w'.cell? ⟨b, o + n * 3 + 1, none⟩ = some (.int .i64 yne) /\ w'.cell? ⟨b, o + n * 3 + 2, none⟩ = some (.slice xA yi.length xc) /\
     w'.cell? ⟨b', o' + n * 3, none⟩ = some (.int .i64 yst) /\ w'.cell? ⟨b', o' + n * 3 + 1, none⟩ = some (.int .i64 yne) /\ w'.cell? ⟨b', o' + n * 3 + 2, none⟩ = some (.slice yA yi.length yc) /\ wr.heap.size <= w'.heap.size)
     (first | (go_split_ands; refine ⟨?_, ?_, ?_, ?_, ?_, ?_, ?_⟩<;>first | assumption | exact (k1 _ _ hb1).trans (by assumption) | exact (k1 _ _ hb2).trans (by assumption) | exact s1 | (simp; done)) | go_keep)
     (first
      | (go_at_call 151; refine (Items.eqRow_same _ _ _ _ _ _ yi hms _ (Hat.out.below (Below.drew (Below.refl _ _))) (Hat'.out.below (Below.drew (Below.refl _ _)))).mono ?_; rintro e w1 ⟨rfl, g1⟩; obtain ⟨k1, m1⟩ := Qax g1; have s1 := g1.size))
    all_goals
     go_wp2
     exact ⟨⟨n + 1, by go_num, by omega, via0 g1 hbl.drew⟩, by simp [intOf]; omega⟩
  . go_wp2
    go_ret
    exact ⟨rfl, hbl⟩
def cR (x : RC) : Nat := 2 + x.its.length * 5
theorem openRC {H : Type} {enc : TypeId × Value -> H} {w : World} {base n : Nat} {spare : Nat -> Bool} {held : Bool} {a : Addr} {cs : List Value} {y : DataW H × List MemPlace}
 (h1 : w.cells? base a 3 = some cs) (h2 : DataW.trod enc Tryz.prog w base spare held n 212 cs = some y) :
 ∃ x : RC, (x.right /\ At w x.A x.its) /\ a.spot = none /\ a.block < w.heap.size /\ ∀ j v, (Cel.cs x)[j]? = some v -> w.cell? ⟨a.block, a.off + j, none⟩ = some v := by
 obtain ⟨_, hlen, hc⟩ := World.cells?_some h1
 match cs, hlen with
 | [c0, c1, c2], _ =>
  obtain ⟨m, hf⟩ := Qbi Tryz.underlying212 (by kernel_rfl) h2
  obtain ⟨y0, g0⟩ := hf 0 _ rfl _ rfl
  obtain ⟨y1, g1⟩ := hf 1 _ rfl _ rfl
  obtain ⟨y2, g2⟩ := hf 2 _ rfl _ rfl
  obtain ⟨st, e0, _, w0⟩ := DataW.trod_int Tryz.underlying3 g0
  obtain ⟨ne, e1, _, w1⟩ := DataW.trod_int Tryz.underlying3 g1
  simp at e0 e1
  subst e0 e1
  have q0 := hc 0 (by omega)
  have hsp : a.spot = none := by
   cases hs : a.spot with
   | none => rfl
   | some s => exfalso; simp [Addr.add, World.cell?, hs] at q0; split at q0<;>simp at q0
  have hlt : a.block < w.heap.size := by
   rw [show a.add 0 = a from rfl] at q0
   unfold World.cell? at q0
   cases hh : w.heap[a.block]? with
   | none => simp [hh] at q0
   | some ob => exact (Array.getElem?_eq_some_iff.1 hh).1
  obtain ⟨A, cap, l, rfl, hl, hR, hat⟩ : ∃ (A : Option Addr) (cap : Nat) (l : List It), c2 = .slice A l.length cap /\ l.length <= 9223372036854775807 /\ (∀ x ∈ l, x.right) /\ At w A l := by
   rcases open_slice Tryz.underlying210 g2 with ⟨e2, _⟩ | ⟨a, len, cap, m, n', D, Pl, e2, _, hl, hm, hmm, _, hx⟩
   . simp at e2
     subst e2
     exact ⟨none, 0, [], rfl, by simp, by simp, .inl rfl⟩
   . simp at e2
     subst e2
     have hle : len <= m := by rw [hmm]; split<;>omega
     rw [Items.cellsItem] at hx
     obtain ⟨X, hX⟩ := choose_lt (α := It) (p := fun i x => x.right /\ (a.add (i * 5)).spot = none /\ (a.add (i * 5)).block < w.heap.size /\ ∀ j v, (Cel.cs x)[j]? = some v -> w.cell? ⟨(a.add (i * 5)).block, (a.add (i * 5)).off + j, none⟩ = some v)
      (n := len) (fun i hi => by obtain ⟨cs', h1, h2⟩ := hx i (by omega); exact Items.item_of h1 h2)
     obtain ⟨l, rfl, hR, hat⟩ := Qdo (α := It) (by decide) (R := It.right) hX
     exact ⟨some a, cap, l, rfl, by simp [maxLen] at hm ⊢; omega, hR, hat⟩
  refine ⟨⟨st, ne, A, cap, l⟩, ⟨⟨Qa8 w0, Qa8 w1, hl, hR⟩, hat⟩, hsp, hlt, ?_⟩
  intro j v hv
  have hj : j < 3 := (List.getElem?_eq_some_iff.1 hv).1
  have q := hc j hj
  have e : a.add j = ⟨a.block, a.off + j, none⟩ := by
   obtain ⟨b, o, s⟩ := a
   simp only at hsp
   subst hsp
   exact Addr.add_mid b o j
  rw [e] at q
  rw [q]
  exact hv
theorem openRowS {H : Type} {enc : TypeId × Value -> H} {W : World} {base n : Nat} {spare : Nat -> Bool} {held : Bool} {c : Value} {y : DataW H × List MemPlace}
 (g : DataW.trod enc Tryz.prog W base spare held n 87 [c] = some y) :
 ∃ (A : Option Addr) (cap : Nat) (l : List RC), c = .slice A l.length cap /\ l.length <= 9223372036854775807 /\ (∀ x ∈ l, x.right) /\ At W A l /\ EachR W l := by
 rcases open_slice Tryz.underlying87 g with ⟨e2, _⟩ | ⟨a, len, cap, m, n', D, Pl, e2, _, hl, hm, hmm, _, hx⟩
 . simp at e2
   subst e2
   exact ⟨none, 0, [], rfl, by simp, by simp, .inl rfl, by simp [EachR]⟩
 . simp at e2
   subst e2
   have hle : len <= m := by rw [hmm]; split<;>omega
   rw [Items.cellsRow] at hx
   obtain ⟨X, hX⟩ := choose_lt (α := RC) (p := fun i x => (x.right /\ At W x.A x.its) /\ (a.add (i * 3)).spot = none /\ (a.add (i * 3)).block < W.heap.size /\ ∀ j v, (Cel.cs x)[j]? = some v -> W.cell? ⟨(a.add (i * 3)).block, (a.add (i * 3)).off + j, none⟩ = some v)
    (n := len) (fun i hi => by obtain ⟨cs', h1, h2⟩ := hx i (by omega); exact openRC h1 h2)
   obtain ⟨l, rfl, hR, hat⟩ := Qdo (α := RC) (by decide) (R := fun x => x.right /\ At W x.A x.its) hX
   exact ⟨some a, cap, l, rfl, by simp [maxLen] at hm ⊢; omega, fun x hx => (hR x hx).1, hat, fun x hx => (hR x hx).2⟩
end Go.Proofs.YtkmkldjipihceaaGreat.Gen
