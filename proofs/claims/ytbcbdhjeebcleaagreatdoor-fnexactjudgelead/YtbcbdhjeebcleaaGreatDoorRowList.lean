/-
  Lists of rows, each with its list of items: how they lie, what the laws' to, sz, eq, mark and held functions of them do; the argument opened. No condition but that there are at most 1048576, and the length that every text has.
-/
import Derived.Test.YtbcbdhjeebcleaaGreatDoorDkV
set_option linter.unusedVariables false
set_option linter.unusedSimpArgs false
set_option maxRecDepth 100000
set_option maxHeartbeats 8000000
namespace Go.Proofs.YtbcbdhjeebcleaaGreatDoor.Gen
open ChangeShapes WideShapes ChangeAt RowKit Joins Deep Base
open Items (It)
instance : Cel It where
  k := 5
  cs := It.cs
  len _ := rfl
  one x u hu := by simp [It.cs] at hu; rcases hu with rfl | rfl | rfl | rfl | rfl<;>rfl
structure RC where
  start : Int
  next : Int
  A : Option Addr
  cap : Nat
  its : List It
instance : Inhabited RC := ⟨⟨0, 0, none, 0, []⟩⟩
instance : Cel RC where
  k := 3
  cs x := [.int .i64 x.start, .int .i64 x.next, .slice x.A x.its.length x.cap]
  len _ := rfl
  one x u hu := by simp at hu; rcases hu with rfl | rfl | rfl<;>rfl
structure PR where
  start : Int
  next : Int
  its : List It
def RC.p (x : RC) : PR := ⟨x.start, x.next, x.its⟩
def RC.right (x : RC) : Prop := I64 x.start /\ I64 x.next /\ x.its.length <= 9223372036854775807 /\ ∀ y ∈ x.its, y.right
def EachR (w : World) (l : List RC) : Prop := ∀ x ∈ l, At w x.A x.its
theorem EachR.below {w w' : World} {l : List RC} (h : EachR w l) (hw : Below w.heap.size w w') : EachR w' l := fun x hx => (h x hx).below hw
def rowP (w : World) (x : RC) (S : Nat -> Prop) : Prop := Sub w x.A x.its S
theorem Qap : Firm rowP := fun w w' x S T h k hd => Sub.offp h k hd
theorem rowP_each {S : Nat -> Prop} {w : World} {a : Option Addr} {l : List RC} (h : Own rowP w a l S) : EachR w l := h.each (fun x S hx => Sub.at hx)
theorem In.getRC {w : World} {b o : Nat} {l : List RC} (h : In w b o l) (i : Nat) (hi : i < l.length) :
 w.cell? ⟨b, o + i * 3, none⟩ = some (.int .i64 l[i].start) /\ w.cell? ⟨b, o + i * 3 + 1, none⟩ = some (.int .i64 l[i].next) /\ w.cell? ⟨b, o + i * 3 + 2, none⟩ = some (.slice l[i].A l[i].its.length l[i].cap) :=
 ⟨h.cell i hi (f := 0) rfl, h.cell i hi (f := 1) rfl, h.cell i hi (f := 2) rfl⟩
theorem infoRC : (Tryz.prog.info? 203).map (fun i => (i.zero, i.size, i.bytes)) = some (some (.agg #[.int .i64 0, .int .i64 0, .slice none 0 0]), 3, 40) := by kernel_rfl
def szRC (x : RC) : Nat := x.its.length + Items.tot x.its
theorem szRowS_any (A : Option Addr) (cap : Nat) (l : List RC) (hl : l.length <= 9223372036854775807) (hr : ∀ x ∈ l, x.right) (left : Int) (h0 : 0 <= left) (h1 : left <= 1048576) (w : World) (hA : At w A l) (hE : EachR w l) :
 Calls Tryz.prog 95 #[.slice A l.length cap, .int .i64 left] w fun e w' => (∃ r : Int, e = .returned (.int .i64 r) /\ (r < 0 ∨ (0 <= r /\ r = left - (l.length : Int) - (Qah szRC l : Int)))) /\ Below w.heap.size w w' := by
 have HA := hidP hA
 have Hr := hidP hr
 have HE := hidP hE
 clear hA hr hE
 by_cases h : left < (l.length : Int)
 . have g : left - (l.length : Int) < 0 := by omega
   go_enter Tryz.func95, Tryz.ntmps95
   go_wp2
   go_ret
   exact ⟨⟨-1, rfl, .inl (by omega)⟩, Below.refl _ _⟩
 . have g : ¬ left - (l.length : Int) < 0 := by omega
   go_enter Tryz.func95, Tryz.ntmps95
   go_wp2
   go_loopw [1, 5] (fun q i w' => ∃ (n : Nat) (z : Int), i = .int .i64 (n : Int) /\ q = .int .i64 z /\ n <= l.length /\ 0 <= z /\ z <= 1048576 /\ Hid (z = left - (l.length : Int) - (Qah szRC (l.take n) : Int)) /\ Below w.heap.size w w') (fun _ i _ => l.length - (intOf i).toNat)
   case atStart => exact ⟨0, _, rfl, rfl, by omega, by omega, by omega, by simp [Hid, Qah], Below.refl _ _⟩
   case round =>
    obtain ⟨n, z, rfl, rfl, hn, hz0, hz1, hz, hbl⟩ := hrel
    by_cases hlt : n < l.length
    . obtain ⟨b, o, rfl, hbs, hIn⟩ : ∃ b o, A = some ⟨b, o, none⟩ /\ b < w.heap.size /\ In w b o l := by
       rcases HA.out with h | h
       . subst h; simp at hlt
       . exact h
      obtain ⟨c0, c1, c2⟩ := (hIn.below hbs hbl).getRC n hlt
      have hms := hidP (Hr.out _ (List.getElem_mem hlt))
      have hat := hidP ((HE.out _ (List.getElem_mem hlt)).below hbl)
      have hsn := hidP (Qa4 szRC l n hlt)
      go_wp2_with fail
      refine (Items.szRow_at _ _ _ _ _ hms.out.2.2.1 (fun x hx => (hms.out.2.2.2 x hx).2.2.2) z hz0 hz1 _ hat.out).mono ?_
      rintro e w1 ⟨r, rfl, hr, g1⟩
      rcases hr with hr | ⟨hr0, hr1⟩
      . go_wp2
        go_ret
        exact ⟨⟨-1, rfl, .inl (by omega)⟩, via0 g1 hbl⟩
      . have hp : ¬ r < 0 := by omega
        have HR1 := hidP hr1
        clear hr1
        go_wp2
        have hz' := hz.out
        have hsn' := hsn.out
        have hr' := HR1.out
        exact ⟨⟨n + 1, r, by go_num, rfl, by omega, by omega, by omega, by show _ = _; rw [hsn', hr', hz']; simp only [szRC]; omega, via0 g1 hbl⟩, by simp [intOf]; omega⟩
    . have e : l.take n = l := List.take_of_length_le (by omega)
      go_wp2
      go_ret
      have hz' := hz.out
      rw [e] at hz'
      exact ⟨⟨z, rfl, .inr ⟨hz0, hz'⟩⟩, hbl⟩
theorem toRowS_any (A : Option Addr) (cap : Nat) (l : List RC) (hl : l.length <= 1048576) (hr : ∀ x ∈ l, x.its.length <= 1048576) (w : World) (hA : At w A l) (hE : EachR w l) :
 Calls Tryz.prog 106 #[.slice A l.length cap] w fun e w' => e = .returned (.slice (some ⟨w.heap.size, 0, none⟩) l.length l.length) /\ Below w.heap.size w w' /\ ∃ l', Grow rowP w' w.heap.size l.length l' /\ l'.map RC.p = l.map RC.p := by
 have HA := hidP hA
 have HE := hidP hE
 have Hr := hidP hr
 clear hA hE hr
 have hmk := Qay (P := Tryz.prog) Tryz.underlying51 infoRC (by omega) l.length hl
 go_enter Tryz.func106, Tryz.ntmps106
 go_wp2
 go_loopw [4] (fun i w' => ∃ (n : Nat) (pre : List RC), i = .int .i64 (n : Int) /\ n <= l.length /\ Below w.heap.size w w' /\ w.heap.size < w'.heap.size /\ Hid (pre.length = n) /\ Hid (Grow rowP w' w.heap.size l.length pre) /\ Hid (pre.map RC.p = (l.take n).map RC.p)) (fun i _ => l.length - (intOf i).toNat)
 case atStart => exact ⟨0, [], rfl, by omega, by repeat (first | exact Below.refl _ _ | assumption | refine via0 (by assumption) ?_ | refine Below.drew ?_ | refine Qaa ?_ _), by simp, rfl, Grow.start (by simp) (Qal w _ _ _ _), by simp [Hid]⟩
 case round =>
  obtain ⟨n, pre, rfl, hn, hbl, hsz, hpl, hgr, hsame⟩ := hrel
  by_cases hlt : n < l.length
  . obtain ⟨b, o, rfl, hbs, hIn⟩ : ∃ b o, A = some ⟨b, o, none⟩ /\ b < w.heap.size /\ In w b o l := by
     rcases HA.out with h | h
     . subst h; simp at hlt
     . exact h
    obtain ⟨c0, c1, c2⟩ := (hIn.below hbs hbl).getRC n hlt
    have hms := Hr.out _ (List.getElem_mem hlt)
    have hat := hidP ((HE.out _ (List.getElem_mem hlt)).below hbl)
    obtain ⟨⟨v0, d0⟩, f0⟩ := Qab (f := 0) hgr.out.th hlt (by decide)
    obtain ⟨⟨v1, d1⟩, f1⟩ := Qab (f := 1) hgr.out.th hlt (by decide)
    obtain ⟨⟨v2, d2⟩, f2⟩ := Qab (f := 2) hgr.out.th hlt (by decide)
    simp only [Nat.zero_add, Nat.add_zero, show Cel.k RC = 3 from rfl] at d0 f0 d1 f1 d2 f2
    go_wp2_with (go_at_call 136; refine (Items.toRow_any _ _ _ _ _ hms _ hat.out).mono ?_; rintro e w1 ⟨bx, rfl, g1, hbx, hbx', hix, htx⟩; obtain ⟨k1, m1⟩ := Qaf g1; have s1 := g1.size; have hix := hidP hix; have htx := hidP htx)
    have hpl' := hpl.out
    have hst := hgr.out.snoc Qap (by omega) g1 (y := (⟨l[n].start, l[n].next, some ⟨bx, 0, none⟩, l[n].its.length, l[n].its⟩ : RC)) (S := fun x => x = bx) (.inr ⟨bx, 0, rfl, rfl, hbx', hix.out, htx.out⟩) (fun x hx => by subst hx; exact ⟨hbx, hbx'⟩)
    rw [hpl'] at hst
    refine ⟨⟨n + 1, _, by go_num, by omega, ?_, by simp; omega, ?_, hst, ?_⟩, by simp [intOf]; omega⟩
    . exact ((((via0 g1 hbl).setCell (Nat.le_refl _) _).setCell (Nat.le_refl _) _).setCell (Nat.le_refl _) _)
    . show _ = _; simp [hpl']
    . show _ = _
      rw [List.map_append, hsame.out, List.take_succ_eq_append_getElem hlt, List.map_append]
      rfl
  . have e : l.take n = l := List.take_of_length_le (by omega)
    go_wp2
    go_ret
    exact ⟨rfl, hbl, pre, hgr.out, by rw [hsame.out, e]⟩
theorem Qh7 (A A' : Option Addr) (cap cap' : Nat) (l l' : List RC) (hl : l.length <= 9223372036854775807) (hr : ∀ x ∈ l, x.its.length <= 9223372036854775807) (hsame : l'.map RC.p = l.map RC.p) (w : World) (hA : At w A l) (hE : EachR w l) (hA' : At w A' l') (hE' : EachR w l') :
 Calls Tryz.prog 125 #[.slice A l.length cap, .slice A' l.length cap'] w fun e w' => e = .returned (.bool true) /\ Below w.heap.size w w' := by
 have HA := hidP hA
 have HE := hidP hE
 have HA' := hidP hA'
 have HE' := hidP hE'
 have Hr := hidP hr
 have HS := hidP hsame
 have HLL : Hid (l'.length = l.length) := by have := congrArg List.length hsame; show _ = _; simpa using this
 clear hA hE hA' hE' hr hsame
 go_enter Tryz.func125, Tryz.ntmps125
 go_wp2
 go_loopw [5] (fun i w' => ∃ (n : Nat), i = .int .i64 (n : Int) /\ n <= l.length /\ Below w.heap.size w w') (fun i _ => l.length - (intOf i).toNat)
 case atStart => exact ⟨0, rfl, by omega, Below.refl _ _⟩
 case round =>
  obtain ⟨n, rfl, hn, hbl⟩ := hrel
  by_cases hlt : n < l.length
  . have hll := HLL.out
    obtain ⟨b, o, rfl, hbs, hin⟩ : ∃ b o, A = some ⟨b, o, none⟩ /\ b < w.heap.size /\ In w b o l := by
     rcases HA.out with h | h
     . subst h; simp at hlt
     . exact h
    obtain ⟨b', o', rfl, hbs', hin'⟩ : ∃ b o, A' = some ⟨b, o, none⟩ /\ b < w.heap.size /\ In w b o l' := by
     rcases HA'.out with h | h
     . subst h; simp at hll; omega
     . exact h
    have hp : (l'[n]'(by omega)).p = l[n].p := by
     have h1 : (l'.map RC.p)[n]'(by simp; omega) = (l.map RC.p)[n]'(by simpa using hlt) := by simp only [HS.out]
     simpa using h1
    obtain ⟨c0, c1, c2⟩ := (hin.below hbs hbl).getRC n hlt
    obtain ⟨d0, d1, d2⟩ := (hin'.below hbs' hbl).getRC n (by omega)
    have hat := HE.out _ (List.getElem_mem hlt)
    have hat' := HE'.out _ (List.getElem_mem (show n < l'.length by omega))
    have hms := Hr.out _ (List.getElem_mem hlt)
    generalize l'[n]'(by omega) = y at hp d0 d1 d2 hat'
    generalize l[n] = x at hp c0 c1 c2 hat hms
    obtain ⟨yst, yne, yA, yc, yi⟩ := y
    obtain ⟨st, ne, xA, xc, xi⟩ := x
    simp only [RC.p, PR.mk.injEq] at hp
    obtain ⟨rfl, rfl, rfl⟩ := hp
    simp only at c0 c1 c2 d0 d1 d2 hat hat' hms
    have Hat := hidP (hat.below hbl)
    have Hat' := hidP (hat'.below hbl)
    clear hat hat' hll
    have hb1 : b < wr.heap.size := Nat.lt_of_lt_of_le hbs hbl.size
    have hb2 : b' < wr.heap.size := Nat.lt_of_lt_of_le hbs' hbl.size
    have hi0 : (0 : Int) <= (n : Int) := by omega
    have hi1 : (n : Int) < (l.length : Int) := by omega
    go_wp2
    go_region_held3 (fun w' => w'.cell? ⟨b, o + n * 3, none⟩ = some (.int .i64 yst) /\ w'.cell? ⟨b, o + n * 3 + 1, none⟩ = some (.int .i64 yne) /\ w'.cell? ⟨b, o + n * 3 + 2, none⟩ = some (.slice xA yi.length xc) /\
     w'.cell? ⟨b', o' + n * 3, none⟩ = some (.int .i64 yst) /\ w'.cell? ⟨b', o' + n * 3 + 1, none⟩ = some (.int .i64 yne) /\ w'.cell? ⟨b', o' + n * 3 + 2, none⟩ = some (.slice yA yi.length yc) /\ wr.heap.size <= w'.heap.size)
     (first | (go_split_ands; refine ⟨?_, ?_, ?_, ?_, ?_, ?_, ?_⟩<;>first | assumption | exact (k1 _ _ hb1).trans (by assumption) | exact (k1 _ _ hb2).trans (by assumption) | exact s1 | (simp; done)) | go_keep)
     (first
      | (go_at_call 146; refine (Items.eqRow_same _ _ _ _ _ _ yi hms _ (Hat.out.below (Below.drew (Below.refl _ _))) (Hat'.out.below (Below.drew (Below.refl _ _)))).mono ?_; rintro e w1 ⟨rfl, g1⟩; obtain ⟨k1, m1⟩ := Qaf g1; have s1 := g1.size))
    all_goals
     go_wp2
     exact ⟨⟨n + 1, by go_num, by omega, via0 g1 hbl.drew⟩, by simp [intOf]; omega⟩
  . go_wp2
    go_ret
    exact ⟨rfl, hbl⟩
def cR (x : RC) : Nat := 2 + x.its.length * 5
def mR (x : RC) (z : Int) : RC := ⟨z, z + 1, x.A, x.cap, Items.marks x.its.length (z + 2)⟩
theorem openRC {H : Type} {enc : TypeId × Value -> H} {w : World} {base n : Nat} {spare : Nat -> Bool} {held : Bool} {a : Addr} {cs : List Value} {y : DataW H × List MemPlace}
 (h1 : w.cells? base a 3 = some cs) (h2 : DataW.trod enc Tryz.prog w base spare held n 239 cs = some y) :
 ∃ x : RC, (x.right /\ At w x.A x.its) /\ a.spot = none /\ a.block < w.heap.size /\ ∀ j v, (Cel.cs x)[j]? = some v -> w.cell? ⟨a.block, a.off + j, none⟩ = some v := by
 obtain ⟨_, hlen, hc⟩ := World.cells?_some h1
 match cs, hlen with
 | [c0, c1, c2], _ =>
  obtain ⟨m, hf⟩ := Qa0 Tryz.underlying239 (by kernel_rfl) h2
  obtain ⟨y0, g0⟩ := hf 0 _ rfl _ rfl
  obtain ⟨y1, g1⟩ := hf 1 _ rfl _ rfl
  obtain ⟨y2, g2⟩ := hf 2 _ rfl _ rfl
  obtain ⟨st, e0, _, w0⟩ := DataW.trod_int Tryz.underlying3 g0
  obtain ⟨ne, e1, _, w1⟩ := DataW.trod_int Tryz.underlying3 g1
  simp at e0 e1
  subst e0 e1
  have q0 := hc 0 (by omega)
  have hsp : a.spot = none := by
   cases hs : a.spot with
   | none => rfl
   | some s => exfalso; simp [Addr.add, World.cell?, hs] at q0; split at q0<;>simp at q0
  have hlt : a.block < w.heap.size := by
   rw [show a.add 0 = a from rfl] at q0
   unfold World.cell? at q0
   cases hh : w.heap[a.block]? with
   | none => simp [hh] at q0
   | some ob => exact (Array.getElem?_eq_some_iff.1 hh).1
  obtain ⟨A, cap, l, rfl, hl, hR, hat⟩ : ∃ (A : Option Addr) (cap : Nat) (l : List It), c2 = .slice A l.length cap /\ l.length <= 9223372036854775807 /\ (∀ x ∈ l, x.right) /\ At w A l := by
   rcases open_slice Tryz.underlying237 g2 with ⟨e2, _⟩ | ⟨a, len, cap, m, n', D, Pl, e2, _, hl, hm, hmm, _, hx⟩
   . simp at e2
     subst e2
     exact ⟨none, 0, [], rfl, by simp, by simp, .inl rfl⟩
   . simp at e2
     subst e2
     have hle : len <= m := by rw [hmm]; split<;>omega
     rw [Items.cellsItem] at hx
     obtain ⟨X, hX⟩ := choose_lt (α := It) (p := fun i x => x.right /\ (a.add (i * 5)).spot = none /\ (a.add (i * 5)).block < w.heap.size /\ ∀ j v, (Cel.cs x)[j]? = some v -> w.cell? ⟨(a.add (i * 5)).block, (a.add (i * 5)).off + j, none⟩ = some v)
      (n := len) (fun i hi => by obtain ⟨cs', h1, h2⟩ := hx i (by omega); exact Items.item_of h1 h2)
     obtain ⟨l, rfl, hR, hat⟩ := Qc2 (α := It) (by decide) (R := It.right) hX
     exact ⟨some a, cap, l, rfl, by simp [maxLen] at hm ⊢; omega, hR, hat⟩
  refine ⟨⟨st, ne, A, cap, l⟩, ⟨⟨Qaq w0, Qaq w1, hl, hR⟩, hat⟩, hsp, hlt, ?_⟩
  intro j v hv
  have hj : j < 3 := (List.getElem?_eq_some_iff.1 hv).1
  have q := hc j hj
  have e : a.add j = ⟨a.block, a.off + j, none⟩ := by
   obtain ⟨b, o, s⟩ := a
   simp only at hsp
   subst hsp
   exact Addr.add_mid b o j
  rw [e] at q
  rw [q]
  exact hv
theorem openRowS {H : Type} {enc : TypeId × Value -> H} {W : World} {base n : Nat} {spare : Nat -> Bool} {held : Bool} {c : Value} {y : DataW H × List MemPlace}
 (g : DataW.trod enc Tryz.prog W base spare held n 87 [c] = some y) :
 ∃ (A : Option Addr) (cap : Nat) (l : List RC), c = .slice A l.length cap /\ l.length <= 9223372036854775807 /\ (∀ x ∈ l, x.right) /\ At W A l /\ EachR W l := by
 rcases open_slice Tryz.underlying87 g with ⟨e2, _⟩ | ⟨a, len, cap, m, n', D, Pl, e2, _, hl, hm, hmm, _, hx⟩
 . simp at e2
   subst e2
   exact ⟨none, 0, [], rfl, by simp, by simp, .inl rfl, by simp [EachR]⟩
 . simp at e2
   subst e2
   have hle : len <= m := by rw [hmm]; split<;>omega
   rw [Items.cellsRow] at hx
   obtain ⟨X, hX⟩ := choose_lt (α := RC) (p := fun i x => (x.right /\ At W x.A x.its) /\ (a.add (i * 3)).spot = none /\ (a.add (i * 3)).block < W.heap.size /\ ∀ j v, (Cel.cs x)[j]? = some v -> W.cell? ⟨(a.add (i * 3)).block, (a.add (i * 3)).off + j, none⟩ = some v)
    (n := len) (fun i hi => by obtain ⟨cs', h1, h2⟩ := hx i (by omega); exact openRC h1 h2)
   obtain ⟨l, rfl, hR, hat⟩ := Qc2 (α := RC) (by decide) (R := fun x => x.right /\ At W x.A x.its) hX
   exact ⟨some a, cap, l, rfl, by simp [maxLen] at hm ⊢; omega, fun x hx => (hR x hx).1, hat, fun x hx => (hR x hx).2⟩
end Go.Proofs.YtbcbdhjeebcleaaGreatDoor.Gen
namespace Go.Proofs.YtbcbdhjeebcleaaGreatDoor.Gen
open ChangeShapes WideShapes ChangeAt RowKit Joins Deep Base
theorem Qdt (gen : Int) (A B C : Option Addr) (nm nb no ca cb cc : Nat) (hm : nm <= 9223372036854775807) (hb : nb <= 9223372036854775807) (ho : no <= 9223372036854775807) (left : Int) (h0 : 0 <= left) (h1 : left <= 1048576) (w : World) :
 Calls Tryz.prog 133 #[.agg #[.int .i64 gen, .slice A nm ca, .slice B nb cb, .slice C no cc], .int .i64 left] w fun e w' => e = .returned (.int .i64 (if left < (nm + nb + no : Nat) then -1 else left - (nm + nb + no : Nat))) /\ Below w.heap.size w w' := by
 generalize hans : (if left < ((nm + nb + no : Nat) : Int) then (-1 : Int) else left - ((nm + nb + no : Nat) : Int)) = ans
 have Hans := hidP hans
 clear hans
 go_enter Tryz.func133, Tryz.ntmps133
 go_wp2_with fail
 refine (Qbo A nm ca hm left h0 h1 _).mono ?_
 by_cases k1 : left < nm
 . rw [if_pos k1]
   rintro e w1 ⟨rfl, rfl⟩
   have e : ans = -1 := by rw [← Hans.out, if_pos (by omega)]
   subst e
   go_wp2
   go_ret
   exact ⟨rfl, by repeat (first | exact Below.refl _ _ | assumption | refine via0 (by assumption) ?_ | refine Below.drew ?_ | refine Qaa ?_ _)⟩
 rw [if_neg k1]
 rintro e w1 ⟨rfl, rfl⟩
 have k1' : ¬ left - (nm : Int) < 0 := by omega
 go_wp2_with fail
 refine (Qbo B nb cb hb (left - nm) (by omega) (by omega) _).mono ?_
 by_cases k2 : left - nm < nb
 . rw [if_pos k2]
   rintro e w1 ⟨rfl, rfl⟩
   have e : ans = -1 := by rw [← Hans.out, if_pos (by omega)]
   subst e
   go_wp2
   go_ret
   exact ⟨rfl, by repeat (first | exact Below.refl _ _ | assumption | refine via0 (by assumption) ?_ | refine Below.drew ?_ | refine Qaa ?_ _)⟩
 rw [if_neg k2]
 rintro e w1 ⟨rfl, rfl⟩
 have k2' : ¬ left - (nm : Int) - (nb : Int) < 0 := by omega
 go_wp2_with fail
 refine (Qbo C no cc ho (left - nm - nb) (by omega) (by omega) _).mono ?_
 by_cases k3 : left - nm - nb < no
 . rw [if_pos k3]
   rintro e w1 ⟨rfl, rfl⟩
   have e : ans = -1 := by rw [← Hans.out, if_pos (by omega)]
   subst e
   go_wp2
   go_ret
   exact ⟨rfl, by repeat (first | exact Below.refl _ _ | assumption | refine via0 (by assumption) ?_ | refine Below.drew ?_ | refine Qaa ?_ _)⟩
 rw [if_neg k3]
 rintro e w1 ⟨rfl, rfl⟩
 have k3' : ¬ left - (nm : Int) - (nb : Int) - (no : Int) < 0 := by omega
 have e : ans = left - (nm : Int) - (nb : Int) - (no : Int) := by rw [← Hans.out, if_neg (by omega)]; omega
 subst e
 go_wp2
 go_ret
 exact ⟨rfl, by repeat (first | exact Below.refl _ _ | assumption | refine via0 (by assumption) ?_ | refine Below.drew ?_ | refine Qaa ?_ _)⟩
structure Three (n : Nat) (w : World) (x y z : Nat) (m b o : List Int) : Prop where
  nx : n <= x
  xy : x < y
  yz : y < z
  zs : z < w.heap.size
  im : In w x 0 m
  ib : In w y 0 b
  io : In w z 0 o
  tm : w.there x 0 (m.length * 1)
  tb : w.there y 0 (b.length * 1)
  to : w.there z 0 (o.length * 1)
theorem Qhn (gen : Int) (A B C : Option Addr) (ca cb cc : Nat) (m b o : List Int) (hm : m.length <= 1048576) (hb : b.length <= 1048576) (ho : o.length <= 1048576) (w : World) (hA : At w A m) (hB : At w B b) (hC : At w C o) :
 Calls Tryz.prog 138 #[.agg #[.int .i64 gen, .slice A m.length ca, .slice B b.length cb, .slice C o.length cc]] w
  fun e w' => ∃ x y z, e = .returned (.agg #[.int .i64 gen, .slice (some ⟨x, 0, none⟩) m.length m.length, .slice (some ⟨y, 0, none⟩) b.length b.length, .slice (some ⟨z, 0, none⟩) o.length o.length]) /\ Below w.heap.size w w' /\ Three w.heap.size w' x y z m b o := by
 have HA := hidP hA
 have HB := hidP hB
 have HC := hidP hC
 clear hA hB hC
 go_enter Tryz.func138, Tryz.ntmps138
 go_wp2_with fail
 refine (Qbn A ca m hm _ (HA.out.below (by repeat (first | exact Below.refl _ _ | assumption | refine via0 (by assumption) ?_ | refine Below.drew ?_ | refine Qaa ?_ _)))).mono ?_
 rintro e w1 ⟨rfl, g1, s1, i1, t1⟩
 have B1 : Below w.heap.size w w1 := via0 g1 (by repeat (first | exact Below.refl _ _ | assumption | refine via0 (by assumption) ?_ | refine Below.drew ?_ | refine Qaa ?_ _))
 have p0 : Blk w1 w.heap.size 245 #[.int .i64 gen, .slice A m.length ca, .slice B b.length cb, .slice C o.length cc] := (((Blk.new w 245 #[.int .i64 gen, .slice A m.length ca, .slice B b.length cb, .slice C o.length cc]).alloc _).alloc _).below g1 (by simp; omega)
 have p1 : Blk w1 (w.heap.size + 1) 206 #[.int .i64 0, .slice none 0 0, .slice none 0 0, .slice none 0 0] := by
  have := ((Blk.new (w.alloc (.cells #[.int .i64 gen, .slice A m.length ca, .slice B b.length cb, .slice C o.length cc] 245)) 206 #[.int .i64 0, .slice none 0 0, .slice none 0 0, .slice none 0 0]).alloc _).below g1 (by simp)
  simpa using this
 have p2 : Blk w1 (w.heap.size + 1 + 1) 206 #[.int .i64 gen, .slice none 0 0, .slice none 0 0, .slice none 0 0] := by
  have := (Blk.new ((w.alloc (.cells #[.int .i64 gen, .slice A m.length ca, .slice B b.length cb, .slice C o.length cc] 245)).alloc (.cells #[.int .i64 0, .slice none 0 0, .slice none 0 0, .slice none 0 0] 206)) 206 #[.int .i64 gen, .slice none 0 0, .slice none 0 0, .slice none 0 0]).below g1 (by simp)
  simpa using this
 simp only [World.size_alloc] at s1 i1 t1 ⊢
 clear g1
 obtain ⟨u0, u1, u2, u3⟩ := p0.row4
 obtain ⟨n0, n1, n2, n3⟩ := p2.row4
 have f0 := p2.thaw 0
 have f1 := p2.thaw 1
 have f2 := p2.thaw 2
 have f3 := p2.thaw 3
 have q0 := p0.lt
 have q2 := p2.lt
 go_wp2_with fail
 have B1' : Below w.heap.size w (w1.setCell ⟨w.heap.size + 1 + 1, 1, none⟩ (.slice (some ⟨w.heap.size + 1 + 1 + 1, 0, none⟩) m.length m.length)) := Qam B1 (by omega) _
 refine (Qbn B cb b hb _ (HB.out.below B1')).mono ?_
 rintro e w2 ⟨rfl, g2, s2, i2, t2⟩
 rw [World.size_setCell] at s2 i2 t2
 have B2 : Below w.heap.size w w2 := via0 g2 B1'
 have r0 : Blk w2 w.heap.size 245 #[.int .i64 gen, .slice A m.length ca, .slice B b.length cb, .slice C o.length cc] := (p0.other (by omega) _ _).below g2 (by rw [World.size_setCell]; omega)
 have r1 : Blk w2 (w.heap.size + 1) 206 #[.int .i64 0, .slice none 0 0, .slice none 0 0, .slice none 0 0] := (p1.other (by omega) _ _).below g2 (by rw [World.size_setCell]; omega)
 have r2 : Blk w2 (w.heap.size + 1 + 1) 206 #[.int .i64 gen, (.slice (some ⟨w.heap.size + 1 + 1 + 1, 0, none⟩) m.length m.length), .slice none 0 0, .slice none 0 0] := (p2.setAt 1 (.slice (some ⟨w.heap.size + 1 + 1 + 1, 0, none⟩) m.length m.length)).below g2 (by rw [World.size_setCell]; omega)
 have i1' := (i1.set ⟨w.heap.size + 1 + 1, 1, none⟩ (.slice (some ⟨w.heap.size + 1 + 1 + 1, 0, none⟩) m.length m.length) (by simp)).below (by rw [World.size_setCell]; omega) g2
 have t1' := Qak (Qac t1 (w.heap.size + 1 + 1) 1 (.slice (some ⟨w.heap.size + 1 + 1 + 1, 0, none⟩) m.length m.length)) (by rw [World.size_setCell]; omega) g2
 rw [World.size_setCell]
 clear u0 u1 u2 u3 n0 n1 n2 n3 f0 f1 f2 f3 q0 q2 p0 p1 p2 g2 B1 B1' i1 t1
 obtain ⟨u0, u1, u2, u3⟩ := r0.row4
 obtain ⟨n0, n1, n2, n3⟩ := r2.row4
 have f0 := r2.thaw 0
 have f1 := r2.thaw 1
 have f2 := r2.thaw 2
 have f3 := r2.thaw 3
 have q0 := r0.lt
 have q2 := r2.lt
 generalize hX2 : w1.heap.size = X2 at *
 go_wp2_with fail
 have B2' : Below w.heap.size w (w2.setCell ⟨w.heap.size + 1 + 1, 2, none⟩ (.slice (some ⟨X2, 0, none⟩) b.length b.length)) := Qam B2 (by omega) _
 refine (Qbn C cc o ho _ (HC.out.below B2')).mono ?_
 rintro e w3 ⟨rfl, g3, s3, i3, t3⟩
 rw [World.size_setCell] at s3 i3 t3
 have B3 : Below w.heap.size w w3 := via0 g3 B2'
 have z1 : Blk w3 (w.heap.size + 1) 206 #[.int .i64 0, .slice none 0 0, .slice none 0 0, .slice none 0 0] := (r1.other (by omega) _ _).below g3 (by rw [World.size_setCell]; omega)
 have z2 : Blk w3 (w.heap.size + 1 + 1) 206 #[.int .i64 gen, (.slice (some ⟨w.heap.size + 1 + 1 + 1, 0, none⟩) m.length m.length), (.slice (some ⟨X2, 0, none⟩) b.length b.length), .slice none 0 0] := (r2.setAt 2 (.slice (some ⟨X2, 0, none⟩) b.length b.length)).below g3 (by rw [World.size_setCell]; omega)
 have j1 := (i1'.set ⟨w.heap.size + 1 + 1, 2, none⟩ (.slice (some ⟨X2, 0, none⟩) b.length b.length) (by simp)).below (by rw [World.size_setCell]; omega) g3
 have k1 := Qak (Qac t1' (w.heap.size + 1 + 1) 2 (.slice (some ⟨X2, 0, none⟩) b.length b.length)) (by rw [World.size_setCell]; omega) g3
 have j2 := (i2.set ⟨w.heap.size + 1 + 1, 2, none⟩ (.slice (some ⟨X2, 0, none⟩) b.length b.length) (by simp; omega)).below (by rw [World.size_setCell]; omega) g3
 have k2 := Qak (Qac t2 (w.heap.size + 1 + 1) 2 (.slice (some ⟨X2, 0, none⟩) b.length b.length)) (by rw [World.size_setCell]; omega) g3
 rw [World.size_setCell]
 clear u0 u1 u2 u3 n0 n1 n2 n3 f0 f1 f2 f3 q0 q2 r0 r1 r2 g3 B2 B2' i1' t1' i2 t2
 obtain ⟨n0, n1, n2, n3⟩ := z2.row4
 obtain ⟨c0, c1, c2, c3⟩ := z1.row4
 have f0 := z2.thaw 0
 have f1 := z2.thaw 1
 have f2 := z2.thaw 2
 have f3 := z2.thaw 3
 have h0 := z1.thaw 0
 have h1 := z1.thaw 1
 have h2 := z1.thaw 2
 have h3 := z1.thaw 3
 have q1 := z1.lt
 have q2 := z2.lt
 generalize hX3 : w2.heap.size = X3 at *
 go_wp2
 refine bodyPost_ret (v := .agg #[.int .i64 gen, (.slice (some ⟨w.heap.size + 1 + 1 + 1, 0, none⟩) m.length m.length), (.slice (some ⟨X2, 0, none⟩) b.length b.length), (.slice (some ⟨X3, 0, none⟩) o.length o.length)]) (by simp [results, Tryz.results138, go_sem, c0, c1, c2, c3]) rfl ?_
 refine ⟨w.heap.size + 1 + 1 + 1, X2, X3, rfl, ?_, ?_⟩
 . exact Qam (Qam (Qam (Qam (Qam B3 (by omega) _) (by omega) _) (by omega) _) (by omega) _) (by omega) _
 . refine ⟨by omega, by omega, by omega, by simp only [World.size_setCell]; omega, ?_, ?_, ?_, ?_, ?_, ?_⟩
   . exact In.set (In.set (In.set (In.set (In.set j1 _ _ (by simp)) _ _ (by simp)) _ _ (by simp)) _ _ (by simp)) _ _ (by simp)
   . exact In.set (In.set (In.set (In.set (In.set j2 _ _ (by simp; omega)) _ _ (by simp; omega)) _ _ (by simp; omega)) _ _ (by simp; omega)) _ _ (by simp; omega)
   . exact In.set (In.set (In.set (In.set (In.set i3 _ _ (by simp; omega)) _ _ (by simp; omega)) _ _ (by simp; omega)) _ _ (by simp; omega)) _ _ (by simp; omega)
   . exact Qac (Qac (Qac (Qac (Qac k1 _ _ _) _ _ _) _ _ _) _ _ _) _ _ _
   . exact Qac (Qac (Qac (Qac (Qac k2 _ _ _) _ _ _) _ _ _) _ _ _) _ _ _
   . exact Qac (Qac (Qac (Qac (Qac t3 _ _ _) _ _ _) _ _ _) _ _ _) _ _ _
theorem Qg8 (gen : Int) (A B C A' B' C' : Option Addr) (ca cb cc ca' cb' cc' : Nat) (m b o : List Int) (hm : m.length <= 9223372036854775807) (hb : b.length <= 9223372036854775807) (ho : o.length <= 9223372036854775807) (w : World)
 (hA : At w A m) (hB : At w B b) (hC : At w C o) (hA' : At w A' m) (hB' : At w B' b) (hC' : At w C' o) :
 Calls Tryz.prog 148 #[.agg #[.int .i64 gen, .slice A m.length ca, .slice B b.length cb, .slice C o.length cc], .agg #[.int .i64 gen, .slice A' m.length ca', .slice B' b.length cb', .slice C' o.length cc']] w fun e w' => e = .returned (.bool true) /\ Below w.heap.size w w' := by
 have HA := hidP hA
 have HB := hidP hB
 have HC := hidP hC
 have HA' := hidP hA'
 have HB' := hidP hB'
 have HC' := hidP hC'
 clear hA hB hC hA' hB' hC'
 go_enter Tryz.func148, Tryz.ntmps148
 go_wp2_with fail
 have B0 : Below w.heap.size w ((w.alloc (.cells #[.int .i64 gen, .slice A m.length ca, .slice B b.length cb, .slice C o.length cc] 206)).alloc (.cells #[.int .i64 gen, .slice A' m.length ca', .slice B' b.length cb', .slice C' o.length cc'] 206)) := by repeat (first | exact Below.refl _ _ | assumption | refine via0 (by assumption) ?_ | refine Below.drew ?_ | refine Qaa ?_ _)
 have p0 : Blk ((w.alloc (.cells #[.int .i64 gen, .slice A m.length ca, .slice B b.length cb, .slice C o.length cc] 206)).alloc (.cells #[.int .i64 gen, .slice A' m.length ca', .slice B' b.length cb', .slice C' o.length cc'] 206)) w.heap.size 206 #[.int .i64 gen, .slice A m.length ca, .slice B b.length cb, .slice C o.length cc] := (Blk.new w 206 #[.int .i64 gen, .slice A m.length ca, .slice B b.length cb, .slice C o.length cc]).alloc _
 have p1 : Blk ((w.alloc (.cells #[.int .i64 gen, .slice A m.length ca, .slice B b.length cb, .slice C o.length cc] 206)).alloc (.cells #[.int .i64 gen, .slice A' m.length ca', .slice B' b.length cb', .slice C' o.length cc'] 206)) (w.heap.size + 1) 206 #[.int .i64 gen, .slice A' m.length ca', .slice B' b.length cb', .slice C' o.length cc'] := by simpa using Blk.new (w.alloc (.cells #[.int .i64 gen, .slice A m.length ca, .slice B b.length cb, .slice C o.length cc] 206)) 206 #[.int .i64 gen, .slice A' m.length ca', .slice B' b.length cb', .slice C' o.length cc']
 refine (Qbf A A' ca ca' m hm _ (HA.out.below B0) (HA'.out.below B0)).mono ?_
 rintro e w1 ⟨rfl, g1⟩
 have B1 := via0 g1 B0
 have r0 := p0.below g1 p0.lt
 have r1 := p1.below g1 p1.lt
 clear p0 p1 g1 B0
 obtain ⟨u0, u1, u2, u3⟩ := r0.row4
 obtain ⟨n0, n1, n2, n3⟩ := r1.row4
 go_wp2_with fail
 refine (Qbf B B' cb cb' b hb _ (HB.out.below B1) (HB'.out.below B1)).mono ?_
 rintro e w2 ⟨rfl, g2⟩
 have B2 := via0 g2 B1
 have s0 := r0.below g2 r0.lt
 have s1 := r1.below g2 r1.lt
 clear r0 r1 g2 B1 u0 u1 u2 u3 n0 n1 n2 n3
 obtain ⟨u0, u1, u2, u3⟩ := s0.row4
 obtain ⟨n0, n1, n2, n3⟩ := s1.row4
 go_wp2_with fail
 refine (Qbf C C' cc cc' o ho _ (HC.out.below B2) (HC'.out.below B2)).mono ?_
 rintro e w3 ⟨rfl, g3⟩
 have B3 := via0 g3 B2
 go_wp2
 go_ret
 exact ⟨rfl, B3⟩
theorem cellsGroup : Tryz.prog.cellsOf 245 = 4 := by kernel_rfl
end Go.Proofs.YtbcbdhjeebcleaaGreatDoor.Gen
