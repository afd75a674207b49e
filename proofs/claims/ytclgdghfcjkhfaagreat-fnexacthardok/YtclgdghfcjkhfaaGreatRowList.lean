/-
  Lists of rows, each with its list of items: how they lie, what the laws' to, sz, eq, mark and held functions of them do; the argument opened. No condition but that there are at most 1048576, and the length that every text has.
-/
import Derived.Test.YtclgdghfcjkhfaaGreatGen
import Derived.Test.YtclgdghfcjkhfaaGreatRowMark
namespace Go.Proofs.YtclgdghfcjkhfaaGreat.Gen
open Go.ChangeShapes Go.WideShapes Go.ChangeAt Go.RowKit Go.Joins Go.Deep Base
open Items (It)
set_option linter.unusedVariables false

instance : Cel It where
  k := 5
  cs := It.cs
  len _ := rfl
  one x u hu := by simp [It.cs] at hu; rcases hu with rfl | rfl | rfl | rfl | rfl <;> rfl

/-- A row as it lies in a list: its items lie elsewhere. -/
structure RC where
  start : Int
  next : Int
  A : Option Addr
  cap : Nat
  its : List It
instance : Inhabited RC := ⟨⟨0, 0, none, 0, []⟩⟩
instance : Cel RC where
  k := 3
  cs x := [.int .i64 x.start, .int .i64 x.next, .slice x.A x.its.length x.cap]
  len _ := rfl
  one x u hu := by simp at hu; rcases hu with rfl | rfl | rfl <;> rfl
/-- A row's content. -/
structure PR where
  start : Int
  next : Int
  its : List It
def RC.p (x : RC) : PR := ⟨x.start, x.next, x.its⟩
def RC.right (x : RC) : Prop := I64 x.start ∧ I64 x.next ∧ x.its.length ≤ 9223372036854775807 ∧ ∀ y ∈ x.its, y.right
def EachR (w : World) (l : List RC) : Prop := ∀ x ∈ l, At w x.A x.its
theorem EachR.below {w w' : World} {l : List RC} (h : EachR w l) (hw : Below w.heap.size w w') : EachR w' l := fun x hx => (h x hx).below hw
/-- A row's items in a block of S. -/
def rowP (w : World) (x : RC) (S : Nat → Prop) : Prop := Sub w x.A x.its S
theorem rowP_firm : Firm rowP := fun w w' x S T h k hd => Sub.offp h k hd
theorem rowP_each {S : Nat → Prop} {w : World} {a : Option Addr} {l : List RC} (h : Own rowP w a l S) : EachR w l := h.each (fun x S hx => Sub.at hx)

theorem In.getRC {w : World} {b o : Nat} {l : List RC} (h : In w b o l) (i : Nat) (hi : i < l.length) :
    w.cell? ⟨b, o + i * 3, none⟩ = some (.int .i64 l[i].start) ∧ w.cell? ⟨b, o + i * 3 + 1, none⟩ = some (.int .i64 l[i].next) ∧ w.cell? ⟨b, o + i * 3 + 2, none⟩ = some (.slice l[i].A l[i].its.length l[i].cap) :=
  ⟨h.cell i hi (f := 0) rfl, h.cell i hi (f := 1) rfl, h.cell i hi (f := 2) rfl⟩
theorem infoRC : (Tryz.prog.info? 97).map (fun i => (i.zero, i.size, i.bytes)) = some (some (.agg #[.int .i64 0, .int .i64 0, .slice none 0 0]), 3, 40) := by kernel_rfl
def szRC (x : RC) : Nat := x.its.length + Items.tot x.its

set_option maxRecDepth 100000 in
set_option maxHeartbeats 1000000 in
theorem szRowS_any (A : Option Addr) (cap : Nat) (l : List RC) (hl : l.length ≤ 9223372036854775807) (hr : ∀ x ∈ l, x.right) (left : Int) (h0 : 0 ≤ left) (h1 : left ≤ 1048576) (w : World) (hA : At w A l) (hE : EachR w l) :
    Calls Tryz.prog 38 #[.slice A l.length cap, .int .i64 left] w fun e w' => (∃ r : Int, e = .returned (.int .i64 r) ∧ (r < 0 ∨ (0 ≤ r ∧ r = left - (l.length : Int) - (count szRC l : Int)))) ∧ Below w.heap.size w w' := by
  have HA := hidP hA
  have Hr := hidP hr
  have HE := hidP hE
  clear hA hr hE
  by_cases h : left < (l.length : Int)
  · have g : left - (l.length : Int) < 0 := by omega
    go_enter Tryz.func38, Tryz.ntmps38
    go_wp2
    go_ret
    exact ⟨⟨-1, rfl, .inl (by omega)⟩, Below.refl _ _⟩
  · have g : ¬ left - (l.length : Int) < 0 := by omega
    go_enter Tryz.func38, Tryz.ntmps38
    go_wp2
    go_loopw [1, 5] (fun q i w' => ∃ (n : Nat) (z : Int), i = .int .i64 (n : Int) ∧ q = .int .i64 z ∧ n ≤ l.length ∧ 0 ≤ z ∧ z ≤ 1048576 ∧ Hid (z = left - (l.length : Int) - (count szRC (l.take n) : Int)) ∧ Below w.heap.size w w') (fun _ i _ => l.length - (intOf i).toNat)
    case atStart => exact ⟨0, _, rfl, rfl, by omega, by omega, by omega, by simp [Hid, count], Below.refl _ _⟩
    case round =>
      obtain ⟨n, z, rfl, rfl, hn, hz0, hz1, hz, hbl⟩ := hrel
      by_cases hlt : n < l.length
      · obtain ⟨b, o, rfl, hbs, hIn⟩ : ∃ b o, A = some ⟨b, o, none⟩ ∧ b < w.heap.size ∧ In w b o l := by
          rcases HA.out with h | h
          · subst h; simp at hlt
          · exact h
        obtain ⟨c0, c1, c2⟩ := (hIn.below hbs hbl).getRC n hlt
        have hms := hidP (Hr.out _ (List.getElem_mem hlt))
        have hat := hidP ((HE.out _ (List.getElem_mem hlt)).below hbl)
        have hsn := hidP (count_snoc szRC l n hlt)
        go_wp2_with fail
        refine (Items.szRow_at _ _ _ _ _ hms.out.2.2.1 (fun x hx => (hms.out.2.2.2 x hx).2.2.2) z hz0 hz1 _ hat.out).mono ?_
        rintro e w1 ⟨r, rfl, hr, g1⟩
        rcases hr with hr | ⟨hr0, hr1⟩
        · go_wp2
          go_ret
          exact ⟨⟨-1, rfl, .inl (by omega)⟩, via0 g1 hbl⟩
        · have hp : ¬ r < 0 := by omega
          have HR1 := hidP hr1
          clear hr1
          go_wp2
          have hz' := hz.out
          have hsn' := hsn.out
          have hr' := HR1.out
          exact ⟨⟨n + 1, r, by go_num, rfl, by omega, by omega, by omega, by show _ = _; rw [hsn', hr', hz']; simp only [szRC]; omega, via0 g1 hbl⟩, by simp [intOf]; omega⟩
      · have e : l.take n = l := List.take_of_length_le (by omega)
        go_wp2
        go_ret
        have hz' := hz.out
        rw [e] at hz'
        exact ⟨⟨z, rfl, .inr ⟨hz0, hz'⟩⟩, hbl⟩

set_option maxRecDepth 100000 in
set_option maxHeartbeats 1000000 in
theorem toRowS_any (A : Option Addr) (cap : Nat) (l : List RC) (hl : l.length ≤ 1048576) (hr : ∀ x ∈ l, x.its.length ≤ 1048576) (w : World) (hA : At w A l) (hE : EachR w l) :
    Calls Tryz.prog 50 #[.slice A l.length cap] w fun e w' => e = .returned (.slice (some ⟨w.heap.size, 0, none⟩) l.length l.length) ∧ Below w.heap.size w w' ∧ ∃ l', Grow rowP w' w.heap.size l.length l' ∧ l'.map RC.p = l.map RC.p := by
  have HA := hidP hA
  have HE := hidP hE
  have Hr := hidP hr
  clear hA hE hr
  have hmk := make_els (P := Tryz.prog) Tryz.underlying43 infoRC (by omega) l.length hl
  go_enter Tryz.func50, Tryz.ntmps50
  go_wp2
  go_loopw [4] (fun i w' => ∃ (n : Nat) (pre : List RC), i = .int .i64 (n : Int) ∧ n ≤ l.length ∧ Below w.heap.size w w' ∧ w.heap.size < w'.heap.size ∧ Hid (pre.length = n) ∧ Hid (Grow rowP w' w.heap.size l.length pre) ∧ Hid (pre.map RC.p = (l.take n).map RC.p)) (fun i _ => l.length - (intOf i).toNat)
  case atStart => exact ⟨0, [], rfl, by omega, by repeat (first | exact Below.refl _ _ | assumption | refine via0 (by assumption) ?_ | refine Below.drew ?_ | refine alloc0 ?_ _), by simp, rfl, Grow.start (by simp) (made_there w _ _ _ _), by simp [Hid]⟩
  case round =>
    obtain ⟨n, pre, rfl, hn, hbl, hsz, hpl, hgr, hsame⟩ := hrel
    by_cases hlt : n < l.length
    · obtain ⟨b, o, rfl, hbs, hIn⟩ : ∃ b o, A = some ⟨b, o, none⟩ ∧ b < w.heap.size ∧ In w b o l := by
        rcases HA.out with h | h
        · subst h; simp at hlt
        · exact h
      obtain ⟨c0, c1, c2⟩ := (hIn.below hbs hbl).getRC n hlt
      have hms := Hr.out _ (List.getElem_mem hlt)
      have hat := hidP ((HE.out _ (List.getElem_mem hlt)).below hbl)
      obtain ⟨⟨v0, d0⟩, f0⟩ := there_at (f := 0) hgr.out.th hlt (by decide)
      obtain ⟨⟨v1, d1⟩, f1⟩ := there_at (f := 1) hgr.out.th hlt (by decide)
      obtain ⟨⟨v2, d2⟩, f2⟩ := there_at (f := 2) hgr.out.th hlt (by decide)
      simp only [Nat.zero_add, Nat.add_zero, show Cel.k RC = 3 from rfl] at d0 f0 d1 f1 d2 f2
      go_wp2_with (go_at_call 104; refine (Items.toRow_any _ _ _ _ _ hms _ hat.out).mono ?_; rintro e w1 ⟨bx, rfl, g1, hbx, hbx', hix, htx⟩; obtain ⟨k1, m1⟩ := bcell g1; have s1 := g1.size; have hix := hidP hix; have htx := hidP htx)
      have hpl' := hpl.out
      have hst := hgr.out.snoc rowP_firm (by omega) g1 (y := (⟨l[n].start, l[n].next, some ⟨bx, 0, none⟩, l[n].its.length, l[n].its⟩ : RC)) (S := fun x => x = bx) (.inr ⟨bx, 0, rfl, rfl, hbx', hix.out, htx.out⟩) (fun x hx => by subst hx; exact ⟨hbx, hbx'⟩)
      rw [hpl'] at hst
      refine ⟨⟨n + 1, _, by go_num, by omega, ?_, by simp; omega, ?_, hst, ?_⟩, by simp [intOf]; omega⟩
      · exact ((((via0 g1 hbl).setCell (Nat.le_refl _) _).setCell (Nat.le_refl _) _).setCell (Nat.le_refl _) _)
      · show _ = _; simp [hpl']
      · show _ = _
        rw [List.map_append, hsame.out, List.take_succ_eq_append_getElem hlt, List.map_append]
        rfl
    · have e : l.take n = l := List.take_of_length_le (by omega)
      go_wp2
      go_ret
      exact ⟨rfl, hbl, pre, hgr.out, by rw [hsame.out, e]⟩

set_option maxRecDepth 100000 in
set_option maxHeartbeats 1000000 in
theorem eqRowS_same (A A' : Option Addr) (cap cap' : Nat) (l l' : List RC) (hl : l.length ≤ 9223372036854775807) (hr : ∀ x ∈ l, x.its.length ≤ 9223372036854775807) (hsame : l'.map RC.p = l.map RC.p) (w : World) (hA : At w A l) (hE : EachR w l) (hA' : At w A' l') (hE' : EachR w l') :
    Calls Tryz.prog 73 #[.slice A l.length cap, .slice A' l.length cap'] w fun e w' => e = .returned (.bool true) ∧ Below w.heap.size w w' := by
  have HA := hidP hA
  have HE := hidP hE
  have HA' := hidP hA'
  have HE' := hidP hE'
  have Hr := hidP hr
  have HS := hidP hsame
  have HLL : Hid (l'.length = l.length) := by have := congrArg List.length hsame; show _ = _; simpa using this
  clear hA hE hA' hE' hr hsame
  go_enter Tryz.func73, Tryz.ntmps73
  go_wp2
  go_loopw [5] (fun i w' => ∃ (n : Nat), i = .int .i64 (n : Int) ∧ n ≤ l.length ∧ Below w.heap.size w w') (fun i _ => l.length - (intOf i).toNat)
  case atStart => exact ⟨0, rfl, by omega, Below.refl _ _⟩
  case round =>
    obtain ⟨n, rfl, hn, hbl⟩ := hrel
    by_cases hlt : n < l.length
    · have hll := HLL.out
      obtain ⟨b, o, rfl, hbs, hin⟩ : ∃ b o, A = some ⟨b, o, none⟩ ∧ b < w.heap.size ∧ In w b o l := by
        rcases HA.out with h | h
        · subst h; simp at hlt
        · exact h
      obtain ⟨b', o', rfl, hbs', hin'⟩ : ∃ b o, A' = some ⟨b, o, none⟩ ∧ b < w.heap.size ∧ In w b o l' := by
        rcases HA'.out with h | h
        · subst h; simp at hll; omega
        · exact h
      have hp : (l'[n]'(by omega)).p = l[n].p := by
        have h1 : (l'.map RC.p)[n]'(by simp; omega) = (l.map RC.p)[n]'(by simpa using hlt) := by simp only [HS.out]
        simpa using h1
      obtain ⟨c0, c1, c2⟩ := (hin.below hbs hbl).getRC n hlt
      obtain ⟨d0, d1, d2⟩ := (hin'.below hbs' hbl).getRC n (by omega)
      have hat := HE.out _ (List.getElem_mem hlt)
      have hat' := HE'.out _ (List.getElem_mem (show n < l'.length by omega))
      have hms := Hr.out _ (List.getElem_mem hlt)
      generalize l'[n]'(by omega) = y at hp d0 d1 d2 hat'
      generalize l[n] = x at hp c0 c1 c2 hat hms
      obtain ⟨yst, yne, yA, yc, yi⟩ := y
      obtain ⟨st, ne, xA, xc, xi⟩ := x
      simp only [RC.p, PR.mk.injEq] at hp
      obtain ⟨rfl, rfl, rfl⟩ := hp
      simp only at c0 c1 c2 d0 d1 d2 hat hat' hms
      have Hat := hidP (hat.below hbl)
      have Hat' := hidP (hat'.below hbl)
      clear hat hat' hll
      have hb1 : b < wr.heap.size := Nat.lt_of_lt_of_le hbs hbl.size
      have hb2 : b' < wr.heap.size := Nat.lt_of_lt_of_le hbs' hbl.size
      have hi0 : (0 : Int) ≤ (n : Int) := by omega
      have hi1 : (n : Int) < (l.length : Int) := by omega
      go_wp2
      go_region_held3 (fun w' => w'.cell? ⟨b, o + n * 3, none⟩ = some (.int .i64 yst) ∧ w'.cell? ⟨b, o + n * 3 + 1, none⟩ = some (.int .i64 yne) ∧ w'.cell? ⟨b, o + n * 3 + 2, none⟩ = some (.slice xA yi.length xc) ∧
          w'.cell? ⟨b', o' + n * 3, none⟩ = some (.int .i64 yst) ∧ w'.cell? ⟨b', o' + n * 3 + 1, none⟩ = some (.int .i64 yne) ∧ w'.cell? ⟨b', o' + n * 3 + 2, none⟩ = some (.slice yA yi.length yc) ∧ wr.heap.size ≤ w'.heap.size)
        (first | (go_split_ands; refine ⟨?_, ?_, ?_, ?_, ?_, ?_, ?_⟩ <;> first | assumption | exact (k1 _ _ hb1).trans (by assumption) | exact (k1 _ _ hb2).trans (by assumption) | exact s1 | (simp; done)) | go_keep)
        (first
          | (go_at_call 118; refine (Items.eqRow_same _ _ _ _ _ _ yi hms _ (Hat.out.below (Below.drew (Below.refl _ _))) (Hat'.out.below (Below.drew (Below.refl _ _)))).mono ?_; rintro e w1 ⟨rfl, g1⟩; obtain ⟨k1, m1⟩ := bcell g1; have s1 := g1.size))
      all_goals
        go_wp2
        exact ⟨⟨n + 1, by go_num, by omega, via0 g1 hbl.drew⟩, by simp [intOf]; omega⟩
    · go_wp2
      go_ret
      exact ⟨rfl, hbl⟩

def cR (x : RC) : Nat := 2 + x.its.length * 5
def mR (x : RC) (z : Int) : RC := ⟨z, z + 1, x.A, x.cap, Items.marks x.its.length (z + 2)⟩

set_option maxRecDepth 100000 in
theorem markItemS_none (A : Option Addr) (cap : Nat) (k : Int) (w : World) :
    Calls Tryz.prog 143 #[.slice A 0 cap, .int .i64 k] w fun e w' => e = .returned (.int .i64 k) ∧ Below w.heap.size w w' := by
  go_enter Tryz.func143, Tryz.ntmps143
  go_wp2
  go_loopw [1, 5] (fun kk i w' => kk = .int .i64 k ∧ i = .int .i64 0 ∧ w' = w) (fun _ _ _ => 0)
  case atStart => exact ⟨rfl, rfl, rfl⟩
  case round =>
    obtain ⟨rfl, rfl, rfl⟩ := hrel
    go_wp2
    go_ret
    exact ⟨rfl, Below.refl _ _⟩
/-- Items marked where they lie. -/
theorem mark_items (a : Option Addr) (cap : Nat) (l : List It) (S : Nat → Prop) (k : Int) (hk : 1 ≤ k) (hk' : k ≤ 100000000) (hl : l.length ≤ 1048576) (w : World) (h : Sub w a l S) :
    Calls Tryz.prog 143 #[.slice a l.length cap, .int .i64 k] w fun e w' => e = .returned (.int .i64 (k + (l.length : Int) * 5)) ∧ Offp S w w' ∧ Sub w' a (Items.marks l.length k) S := by
  rcases h with rfl | ⟨b, o, rfl, hS, hb, hi, ht⟩
  · refine (markItemS_none a cap k w).mono ?_
    rintro e w' ⟨rfl, g⟩
    exact ⟨by simp, Offp.of_below g, .inl rfl⟩
  · refine (Items.markItemS_any b o cap l.length k hk hk' hl w hb ht).mono ?_
    rintro e w' ⟨rfl, ko, hin, hth⟩
    have ko' : Only b w w' := ⟨ko.os, ko.tape, ko.output, ko.size, ko.block⟩
    exact ⟨rfl, (Offp.of_only ko').mono (fun x e => e ▸ hS), .inr ⟨b, o, rfl, hS, Nat.lt_of_lt_of_le hb ko.size, hin, by rw [Items.marks_length]; exact hth⟩⟩

set_option maxRecDepth 100000 in
set_option maxHeartbeats 1000000 in
theorem markRowS_any (b o cap : Nat) (l : List RC) (fp : Nat → Nat → Prop) (k : Int) (hk : 1 ≤ k) (hk' : k ≤ 50000000) (hc : count cR l ≤ 50000000) (hl : l.length ≤ 1048576) (hs : ∀ x ∈ l, x.its.length ≤ 1048576) (w : World) (hO : OwnF rowP w b o l fp) :
    Calls Tryz.prog 90 #[.slice (some ⟨b, o, none⟩) l.length cap, .int .i64 k] w fun e w' => e = .returned (.int .i64 (k + (count cR l : Int))) ∧ Offp (fun x => x = b ∨ ∃ i, fp i x) w w' ∧ OwnF rowP w' b o (marked mR cR l k) fp := by
  have HO := hidP hO
  have Hs := hidP hs
  have Hc := hidP hc
  clear hO hs hc
  go_enter Tryz.func90, Tryz.ntmps90
  go_wp2
  go_loopw [1, 5] (fun kk i w' => ∃ (n : Nat) (z : Int), i = .int .i64 (n : Int) ∧ kk = .int .i64 z ∧ n ≤ l.length ∧ 1 ≤ z ∧ z ≤ 100000000 ∧ Hid (z = k + (count cR (l.take n) : Int)) ∧ Hid (Offp (fun x => x = b ∨ ∃ i, fp i x) w w') ∧ Hid (OwnF rowP w' b o (half mR cR l k n) fp)) (fun _ i _ => l.length - (intOf i).toNat)
  case atStart => exact ⟨0, k, rfl, rfl, by omega, hk, by omega, by simp [Hid, count], Offp.refl _ _, by rw [half_zero]; exact HO.out⟩
  case round =>
    obtain ⟨n, z, rfl, rfl, hn, hz1, hz2, hz, hoff, hown⟩ := hrel
    by_cases hlt : n < l.length
    · have hhl := half_length mR cR l k n
      have hge := half_get mR cR l k n hlt (by omega)
      have hit := Hs.out _ (List.getElem_mem hlt)
      obtain ⟨c0, c1, c2⟩ := hown.out.lst.getRC n (by omega)
      have hth := hown.out.th
      rw [hhl] at hth
      obtain ⟨_, f0⟩ := there_at (f := 0) hth hlt (by decide)
      obtain ⟨_, f1⟩ := there_at (f := 1) hth hlt (by decide)
      simp only [Nat.add_zero, show Cel.k RC = 3 from rfl] at f0 f1
      rw [hge] at c0 c1 c2
      have hsu := half_succ mR cR l k n hlt
      rw [← hz.out] at hsu
      have hcn : count cR (l.take n) + cR l[n] ≤ 50000000 := by rw [← count_snoc cR l n hlt]; exact Nat.le_trans (count_le cR l (n + 1)) Hc.out
      have Hsn := hidP (count_snoc cR l n hlt)
      generalize hx : l[n] = x at c0 c1 c2 hit hsu hcn hge Hsn
      obtain ⟨st, ne, xA, xc, xi⟩ := x
      simp only at c0 c1 c2 hit
      have O1 := hown.out.set1 rowP_firm n (by omega) ⟨z, ne, xA, xc, xi⟩ 0 (by decide) (.int .i64 z) (by rw [hge]; rfl) (fun W S h => by rw [hge] at h; exact h)
      have O2 := O1.set1 rowP_firm n (by simp; omega) ⟨z, z + 1, xA, xc, xi⟩ 1 (by decide) (.int .i64 (z + 1)) (by rw [List.getElem_set_self]; rfl) (fun W S h => by rw [List.getElem_set_self] at h; exact h)
      simp only [Nat.add_zero, show Cel.k RC = 3 from rfl, List.set_set] at O1 O2
      have Hhl := hidP hhl
      have Hsu := hidP hsu
      have Hcn := hidP hcn
      have HO2 := hidP O2
      have hsub := O2.sub n (by simp; omega)
      rw [List.getElem_set_self] at hsub
      have Hsub := hidP hsub
      have hz' := hz.out
      have hzc : z + 2 ≤ 100000000 := by
        have h3 := Hcn.out; simp only [cR] at h3; omega
      clear hx hhl hsu hcn O1 O2 hsub hge hth hz'
      go_wp2_with fail
      refine (mark_items xA xc xi (fp n) _ (by omega) (by omega) hit _ Hsub.out).mono ?_
      rintro e w1 ⟨rfl, ko, hsb⟩
      have hlim : xi.length * 5 + 2 ≤ 50000000 := by have := Hcn.out; simp only [cR] at this; omega
      go_wp2
      have hz' := hz.out
      have hcs : Cel.cs (mR ⟨st, ne, xA, xc, xi⟩ z) = Cel.cs (⟨z, z + 1, xA, xc, xi⟩ : RC) := by
        show [Value.int .i64 z, .int .i64 (z + 1), .slice xA (Items.marks xi.length (z + 2)).length xc] = [.int .i64 z, .int .i64 (z + 1), .slice xA xi.length xc]
        rw [Items.marks_length]
      have hsb' : rowP w1 (mR ⟨st, ne, xA, xc, xi⟩ z) (fp n) := by
        have e : z + 1 + 1 = z + 2 := by omega
        rw [e] at hsb
        exact hsb
      have O3 := HO2.out.turn rowP_firm n (by rw [List.length_set]; have := Hhl.out; omega) (mR ⟨st, ne, xA, xc, xi⟩ z) (by rw [List.getElem_set_self]; exact hcs) ko hsb'
      rw [List.set_set, ← Hsu.out] at O3
      refine ⟨⟨n + 1, z + 1 + 1 + (xi.length : Int) * 5, by go_num, rfl, by omega, by omega, ?_, ?_, ?_, O3⟩, by simp [intOf]; omega⟩
      · have := Hcn.out; simp only [cR] at this; omega
      · show _ = _; rw [Hsn.out, hz']; simp only [cR]; omega
      · exact ((hoff.out.set (.inl rfl) _ _).set (.inl rfl) _ _).trans (ko.mono (fun x hx => .inr ⟨n, hx⟩))
    · obtain rfl : n = l.length := by omega
      go_wp2
      go_ret
      have e := hz.out
      rw [count_all cR l _ (Nat.le_refl _)] at e
      have hh := hown.out
      rw [half_all mR cR l k _ (Nat.le_refl _)] at hh
      subst e
      exact ⟨rfl, hoff.out, hh⟩


set_option maxRecDepth 100000 in
theorem openRC {H : Type} {enc : TypeId × Value → H} {w : World} {base n : Nat} {spare : Nat → Bool} {held : Bool} {a : Addr} {cs : List Value} {y : DataW H × List MemPlace}
    (h1 : w.cells? base a 3 = some cs) (h2 : DataW.trod enc Tryz.prog w base spare held n 153 cs = some y) :
    ∃ x : RC, (x.right ∧ At w x.A x.its) ∧ a.spot = none ∧ a.block < w.heap.size ∧ ∀ j v, (Cel.cs x)[j]? = some v → w.cell? ⟨a.block, a.off + j, none⟩ = some v := by
  obtain ⟨_, hlen, hc⟩ := World.cells?_some h1
  match cs, hlen with
  | [c0, c1, c2], _ =>
    obtain ⟨m, hf⟩ := fields_at Tryz.underlying153 (by kernel_rfl) h2
    obtain ⟨y0, g0⟩ := hf 0 _ rfl _ rfl
    obtain ⟨y1, g1⟩ := hf 1 _ rfl _ rfl
    obtain ⟨y2, g2⟩ := hf 2 _ rfl _ rfl
    obtain ⟨st, e0, _, w0⟩ := DataW.trod_int Tryz.underlying3 g0
    obtain ⟨ne, e1, _, w1⟩ := DataW.trod_int Tryz.underlying3 g1
    simp at e0 e1
    subst e0 e1
    have q0 := hc 0 (by omega)
    have hsp : a.spot = none := by
      cases hs : a.spot with
      | none => rfl
      | some s => exfalso; simp [Addr.add, World.cell?, hs] at q0; split at q0 <;> simp at q0
    have hlt : a.block < w.heap.size := by
      rw [show a.add 0 = a from rfl] at q0
      unfold World.cell? at q0
      cases hh : w.heap[a.block]? with
      | none => simp [hh] at q0
      | some ob => exact (Array.getElem?_eq_some_iff.1 hh).1
    obtain ⟨A, cap, l, rfl, hl, hR, hat⟩ : ∃ (A : Option Addr) (cap : Nat) (l : List It), c2 = .slice A l.length cap ∧ l.length ≤ 9223372036854775807 ∧ (∀ x ∈ l, x.right) ∧ At w A l := by
      rcases open_slice Tryz.underlying151 g2 with ⟨e2, _⟩ | ⟨a, len, cap, m, n', D, Pl, e2, _, hl, hm, hmm, _, hx⟩
      · simp at e2
        subst e2
        exact ⟨none, 0, [], rfl, by simp, by simp, .inl rfl⟩
      · simp at e2
        subst e2
        have hle : len ≤ m := by rw [hmm]; split <;> omega
        rw [Items.cellsItem] at hx
        obtain ⟨X, hX⟩ := choose_lt (α := It) (p := fun i x => x.right ∧ (a.add (i * 5)).spot = none ∧ (a.add (i * 5)).block < w.heap.size ∧ ∀ j v, (Cel.cs x)[j]? = some v → w.cell? ⟨(a.add (i * 5)).block, (a.add (i * 5)).off + j, none⟩ = some v)
          (n := len) (fun i hi => by obtain ⟨cs', h1, h2⟩ := hx i (by omega); exact Items.item_of h1 h2)
        obtain ⟨l, rfl, hR, hat⟩ := at_of (α := It) (by decide) (R := It.right) hX
        exact ⟨some a, cap, l, rfl, by simp [maxLen] at hm ⊢; omega, hR, hat⟩
    refine ⟨⟨st, ne, A, cap, l⟩, ⟨⟨i64_of w0, i64_of w1, hl, hR⟩, hat⟩, hsp, hlt, ?_⟩
    intro j v hv
    have hj : j < 3 := (List.getElem?_eq_some_iff.1 hv).1
    have q := hc j hj
    have e : a.add j = ⟨a.block, a.off + j, none⟩ := by
      obtain ⟨b, o, s⟩ := a
      simp only at hsp
      subst hsp
      exact Addr.add_mid b o j
    rw [e] at q
    rw [q]
    exact hv

set_option maxRecDepth 100000 in
theorem openRowS {H : Type} {enc : TypeId × Value → H} {W : World} {base n : Nat} {spare : Nat → Bool} {held : Bool} {c : Value} {y : DataW H × List MemPlace}
    (g : DataW.trod enc Tryz.prog W base spare held n 27 [c] = some y) :
    ∃ (A : Option Addr) (cap : Nat) (l : List RC), c = .slice A l.length cap ∧ l.length ≤ 9223372036854775807 ∧ (∀ x ∈ l, x.right) ∧ At W A l ∧ EachR W l := by
  rcases open_slice Tryz.underlying27 g with ⟨e2, _⟩ | ⟨a, len, cap, m, n', D, Pl, e2, _, hl, hm, hmm, _, hx⟩
  · simp at e2
    subst e2
    exact ⟨none, 0, [], rfl, by simp, by simp, .inl rfl, by simp [EachR]⟩
  · simp at e2
    subst e2
    have hle : len ≤ m := by rw [hmm]; split <;> omega
    rw [Items.cellsRow] at hx
    obtain ⟨X, hX⟩ := choose_lt (α := RC) (p := fun i x => (x.right ∧ At W x.A x.its) ∧ (a.add (i * 3)).spot = none ∧ (a.add (i * 3)).block < W.heap.size ∧ ∀ j v, (Cel.cs x)[j]? = some v → W.cell? ⟨(a.add (i * 3)).block, (a.add (i * 3)).off + j, none⟩ = some v)
      (n := len) (fun i hi => by obtain ⟨cs', h1, h2⟩ := hx i (by omega); exact openRC h1 h2)
    obtain ⟨l, rfl, hR, hat⟩ := at_of (α := RC) (by decide) (R := fun x => x.right ∧ At W x.A x.its) hX
    exact ⟨some a, cap, l, rfl, by simp [maxLen] at hm ⊢; omega, fun x hx => (hR x hx).1, hat, fun x hx => (hR x hx).2⟩
end Go.Proofs.YtclgdghfcjkhfaaGreat.Gen

/-
  Lists of numbers: how they lie, and what the laws' to, sz, eq, mark and held functions of them do. No condition but that there are at most 1048576.
-/
namespace Go.Proofs.YtclgdghfcjkhfaaGreat.Gen
open Go.ChangeShapes Go.WideShapes Go.ChangeAt Go.RowKit Go.Joins Go.Deep Base
set_option linter.unusedVariables false

instance : Cel Int where
  k := 1
  cs x := [.int .i64 x]
  len _ := rfl
  one x u hu := by simp at hu; subst hu; rfl

theorem In.getInt {w : World} {b o : Nat} {l : List Int} (h : In w b o l) (i : Nat) (hi : i < l.length) : w.cell? ⟨b, o + i, none⟩ = some (.int .i64 l[i]) := by
  have := h.cell i hi (f := 0) rfl
  have e : o + i * Cel.k Int + 0 = o + i := by show o + i * 1 + 0 = o + i; omega
  rwa [e] at this
theorem there_int {w : World} {b o m n : Nat} (h : w.there b o (m * 1)) (hn : n < m) : (∃ v, w.cell? ⟨b, o + n, none⟩ = some v) ∧ w.frozen? ⟨b, o + n, none⟩ = false := by
  have := there_at (f := 0) h hn (by omega)
  rwa [Nat.mul_one, Nat.add_zero] at this

theorem infoInt : (Tryz.prog.info? 3).map (fun i => (i.zero, i.size, i.bytes)) = some (some (.int .i64 0), 1, 8) := by kernel_rfl
theorem cellsInt : Tryz.prog.cellsOf 3 = 1 := by kernel_rfl

theorem szInt_any (A : Option Addr) (n cap : Nat) (hn : n ≤ 9223372036854775807) (left : Int) (h0 : 0 ≤ left) (h1 : left ≤ 1048576) (w : World) :
    Calls Tryz.prog 41 #[.slice A n cap, .int .i64 left] w fun e w' => e = .returned (.int .i64 (if left < n then -1 else left - n)) ∧ w' = w := by
  by_cases h : left < n
  · have g : left - (n : Int) < 0 := by omega
    rw [if_pos h]
    go_enter Tryz.func41, Tryz.ntmps41
    go_wp2
    go_ret
    exact ⟨rfl, rfl⟩
  · have g : ¬ left - (n : Int) < 0 := by omega
    rw [if_neg h]
    go_enter Tryz.func41, Tryz.ntmps41
    go_wp2
    go_ret
    exact ⟨rfl, rfl⟩

theorem store_int {w : World} {b : Nat} {l : List Int} {n : Nat} (hin : In w b 0 (l.take n)) (hth : w.there b 0 (l.length * 1)) (hn : n < l.length) :
    In (w.setCell ⟨b, n, none⟩ (.int .i64 l[n])) b 0 (l.take (n + 1)) ∧ (w.setCell ⟨b, n, none⟩ (.int .i64 l[n])).there b 0 (l.length * 1) := by
  have h := store_el hin hth hn
  have e : w.setCells b (n * Cel.k Int) (Cel.cs l[n]) = w.setCell ⟨b, n, none⟩ (.int .i64 l[n]) := by
    show (w.setCell ⟨b, n * 1, none⟩ (.int .i64 l[n])) = _
    rw [Nat.mul_one]
  rw [e] at h
  exact h

theorem toInt_any (A : Option Addr) (cap : Nat) (l : List Int) (hl : l.length ≤ 1048576) (w : World) (hA : At w A l) :
    Calls Tryz.prog 53 #[.slice A l.length cap] w fun e w' => e = .returned (.slice (some ⟨w.heap.size, 0, none⟩) l.length l.length) ∧ Below w.heap.size w w' ∧ w.heap.size < w'.heap.size ∧ In w' w.heap.size 0 l ∧ w'.there w.heap.size 0 (l.length * 1) := by
  have HA : Hid (At w A l) := hA
  clear hA
  have hmk := make_els (P := Tryz.prog) Tryz.underlying30 infoInt (by omega) l.length hl
  go_enter Tryz.func53, Tryz.ntmps53
  go_wp2
  go_loopw [4] (fun i w' => ∃ (n : Nat), i = .int .i64 (n : Int) ∧ n ≤ l.length ∧ Below w.heap.size w w' ∧ w.heap.size < w'.heap.size ∧ Hid (In w' w.heap.size 0 (l.take n)) ∧ Hid (w'.there w.heap.size 0 (l.length * 1))) (fun i _ => l.length - (intOf i).toNat)
  case atStart => exact ⟨0, rfl, by omega, by repeat (first | exact Below.refl _ _ | refine via0 (by assumption) ?_ | refine Below.drew ?_ | refine alloc0 ?_ _), by simp, In.nil _ _ _, hidP (by have h := made_there w #[Value.int .i64 0] l.length 1 3; simpa using h)⟩
  case round =>
    obtain ⟨n, rfl, hn, hbl, hsz, hin, hth⟩ := hrel
    by_cases hlt : n < l.length
    · obtain ⟨b, o, rfl, hbs, hIn⟩ : ∃ b o, A = some ⟨b, o, none⟩ ∧ b < w.heap.size ∧ In w b o l := by
        rcases HA.out with h | h
        · subst h; simp at hlt
        · exact h
      have c0 := (hIn.below hbs hbl).getInt n hlt
      obtain ⟨⟨v0, d0⟩, f0⟩ := there_int hth.out hlt
      simp only [Nat.zero_add] at d0 f0
      go_wp2
      have hst := store_int hin.out hth.out hlt
      exact ⟨⟨n + 1, by go_num, by omega, hbl.setCell (Nat.le_refl _) _, by simpa using hsz, hst.1, hst.2⟩, by simp [intOf]; omega⟩
    · have e : l.take n = l := List.take_of_length_le (by omega)
      go_wp2
      go_ret
      exact ⟨rfl, hbl, hsz, by have := hin.out; rwa [e] at this, hth.out⟩

theorem eqInt_same (A A' : Option Addr) (cap cap' : Nat) (l : List Int) (hl : l.length ≤ 9223372036854775807) (w : World) (hA : At w A l) (hA' : At w A' l) :
    Calls Tryz.prog 76 #[.slice A l.length cap, .slice A' l.length cap'] w fun e w' => e = .returned (.bool true) ∧ Below w.heap.size w w' := by
  have HA : Hid (At w A l) := hA
  have HA' : Hid (At w A' l) := hA'
  clear hA hA'
  go_enter Tryz.func76, Tryz.ntmps76
  go_wp2
  go_loopw [5] (fun i w' => ∃ (n : Nat), i = .int .i64 (n : Int) ∧ n ≤ l.length ∧ Below w.heap.size w w') (fun i _ => l.length - (intOf i).toNat)
  case atStart => exact ⟨0, rfl, by omega, Below.refl _ _⟩
  case round =>
    obtain ⟨n, rfl, hn, hbl⟩ := hrel
    by_cases hlt : n < l.length
    · obtain ⟨b, o, rfl, hbs, hin⟩ : ∃ b o, A = some ⟨b, o, none⟩ ∧ b < w.heap.size ∧ In w b o l := by
        rcases HA.out with h | h
        · subst h; simp at hlt
        · exact h
      obtain ⟨b', o', rfl, hbs', hin'⟩ : ∃ b o, A' = some ⟨b, o, none⟩ ∧ b < w.heap.size ∧ In w b o l := by
        rcases HA'.out with h | h
        · subst h; simp at hlt
        · exact h
      have c0 := (hin.below hbs hbl).getInt n hlt
      have d0 := (hin'.below hbs' hbl).getInt n hlt
      have hi0 : (0 : Int) ≤ (n : Int) := by omega
      have hi1 : (n : Int) < (l.length : Int) := by omega
      go_wp2
      go_region
      all_goals
        go_wp2
        exact ⟨⟨n + 1, by go_num, by omega, by repeat (first | exact hbl | refine Below.drew ?_)⟩, by simp [intOf]; omega⟩
    · go_wp2
      go_ret
      exact ⟨rfl, hbl⟩

/-- The numbers from z on. -/
def marksInt (n : Nat) (z : Int) : List Int := (List.range n).map fun (i : Nat) => z + (i : Int)
theorem marksInt_length (n : Nat) (z : Int) : (marksInt n z).length = n := by simp [marksInt]
theorem marksInt_succ (n : Nat) (z : Int) : marksInt (n + 1) z = marksInt n z ++ [z + (n : Int)] := by simp [marksInt, List.range_succ]
theorem marksInt_get (n : Nat) (z : Int) (i : Nat) (h : i < (marksInt n z).length) : (marksInt n z)[i] = z + (i : Int) := by simp [marksInt]

set_option maxHeartbeats 1000000 in
theorem markInt_any (b o cap m : Nat) (k : Int) (hk : 1 ≤ k) (hk' : k ≤ 100000000) (hm : m ≤ 2000000) (w : World) (hb : b < w.heap.size) (hth : w.there b o (m * 1)) :
    Calls Tryz.prog 93 #[.slice (some ⟨b, o, none⟩) m cap, .int .i64 k] w fun e w' => e = .returned (.int .i64 (k + (m : Int))) ∧ Only b w w' ∧ In w' b o (marksInt m k) ∧ w'.there b o (m * 1) := by
  have HT : Hid (w.there b o (m * 1)) := hth
  clear hth
  go_enter Tryz.func93, Tryz.ntmps93
  go_wp2
  go_loopw [1, 5] (fun kk i w' => ∃ (n : Nat) (z : Int), i = .int .i64 (n : Int) ∧ kk = .int .i64 z ∧ n ≤ m ∧ 1 ≤ z ∧ z ≤ 900000000 ∧ Only b w w' ∧ Hid (z = k + (n : Int)) ∧ Hid (In w' b o (marksInt n k)) ∧ Hid (w'.there b o (m * 1))) (fun _ i _ => m - (intOf i).toNat)
  case atStart => exact ⟨0, k, rfl, rfl, by omega, hk, by omega, Only.refl _ _, by simp [Hid], fun j v hv => by simp [marksInt, flat] at hv, HT.out⟩
  case round =>
    obtain ⟨n, z, rfl, rfl, hn, hz1, hz2, ho, hz, hin, hth⟩ := hrel
    by_cases hlt : n < m
    · obtain ⟨⟨v0, d0⟩, f0⟩ := there_int hth.out hlt
      have q1 : b < wr.heap.size := Nat.lt_of_lt_of_le hb ho.size
      go_wp2
      have hlen : (flat (marksInt n k)).length = n := by rw [flat_length, marksInt_length]; show n * 1 = n; omega
      have P0 := push (v := .int .i64 z) (q := o + n) ⟨hin.out, hth.out, q1⟩ (by simp [hlen]; omega) (by simp [hlen])
      have e : flat (marksInt n k) ++ [Value.int .i64 z] = flat (marksInt (n + 1) k) := by rw [marksInt_succ, flat_append, flat_one, hz.out]; rfl
      rw [e] at P0
      have hz' := hz.out
      refine ⟨⟨n + 1, z + 1, by go_num, rfl, by omega, by omega, by omega, ?_, by show z + 1 = _; omega, P0.1, P0.2.1⟩, by simp [intOf]; omega⟩
      exact ho.set _ _
    · obtain rfl : n = m := by omega
      go_wp2
      go_ret
      have e := hz.out
      subst e
      exact ⟨rfl, ho, hin.out, hth.out⟩

theorem markInt_none (A : Option Addr) (cap : Nat) (k : Int) (w : World) :
    Calls Tryz.prog 93 #[.slice A 0 cap, .int .i64 k] w fun e w' => e = .returned (.int .i64 k) ∧ w' = w := by
  go_enter Tryz.func93, Tryz.ntmps93
  go_wp2
  go_loopw [1, 5] (fun kk i w' => kk = .int .i64 k ∧ i = .int .i64 0 ∧ w' = w) (fun _ _ _ => 0)
  case atStart => exact ⟨rfl, rfl, rfl⟩
  case round =>
    obtain ⟨rfl, rfl, rfl⟩ := hrel
    go_wp2
    go_ret
    exact ⟨rfl, rfl⟩

theorem openInt1 {H : Type} {enc : TypeId × Value → H} {w : World} {base n : Nat} {spare : Nat → Bool} {held : Bool} {a : Addr} {cs : List Value} {y : DataW H × List MemPlace}
    (h1 : w.cells? base a 1 = some cs) (h2 : DataW.trod enc Tryz.prog w base spare held n 3 cs = some y) :
    ∃ x : Int, I64 x ∧ a.spot = none ∧ a.block < w.heap.size ∧ ∀ j v, (Cel.cs x)[j]? = some v → w.cell? ⟨a.block, a.off + j, none⟩ = some v := by
  obtain ⟨_, hlen, hc⟩ := World.cells?_some h1
  match cs, hlen with
  | [c0], _ =>
    obtain ⟨x, e0, _, w0⟩ := DataW.trod_int Tryz.underlying3 h2
    simp at e0
    subst e0
    have q0 := hc 0 (by omega)
    have hsp : a.spot = none := by
      cases hs : a.spot with
      | none => rfl
      | some s => exfalso; simp [Addr.add, World.cell?, hs] at q0; split at q0 <;> simp at q0
    have hlt : a.block < w.heap.size := by
      rw [show a.add 0 = a from rfl] at q0
      unfold World.cell? at q0
      cases hh : w.heap[a.block]? with
      | none => simp [hh] at q0
      | some ob => exact (Array.getElem?_eq_some_iff.1 hh).1
    refine ⟨x, i64_of w0, hsp, hlt, ?_⟩
    intro j v hv
    have hj : j < 1 := (List.getElem?_eq_some_iff.1 hv).1
    have q := hc j hj
    have e : a.add j = ⟨a.block, a.off + j, none⟩ := by
      obtain ⟨b, o, s⟩ := a
      simp only at hsp
      subst hsp
      exact Addr.add_mid b o j
    rw [e] at q
    rw [q]
    exact hv

theorem openInts {H : Type} {enc : TypeId × Value → H} {W : World} {base n : Nat} {spare : Nat → Bool} {held : Bool} {c : Value} {y : DataW H × List MemPlace}
    (g : DataW.trod enc Tryz.prog W base spare held n 30 [c] = some y) :
    ∃ (A : Option Addr) (cap : Nat) (l : List Int), c = .slice A l.length cap ∧ l.length ≤ 9223372036854775807 ∧ (∀ x ∈ l, I64 x) ∧ At W A l := by
  rcases open_slice Tryz.underlying30 g with ⟨e2, _⟩ | ⟨a, len, cap, m, n', D, Pl, e2, _, hl, hm, hmm, _, hx⟩
  · simp at e2
    subst e2
    exact ⟨none, 0, [], rfl, by simp, by simp, .inl rfl⟩
  · simp at e2
    subst e2
    have hle : len ≤ m := by rw [hmm]; split <;> omega
    rw [cellsInt] at hx
    obtain ⟨X, hX⟩ := choose_lt (α := Int) (p := fun i x => I64 x ∧ (a.add (i * 1)).spot = none ∧ (a.add (i * 1)).block < W.heap.size ∧ ∀ j v, (Cel.cs x)[j]? = some v → W.cell? ⟨(a.add (i * 1)).block, (a.add (i * 1)).off + j, none⟩ = some v)
      (n := len) (fun i hi => by obtain ⟨cs', h1, h2⟩ := hx i (by omega); exact openInt1 h1 h2)
    obtain ⟨l, rfl, hR, hat⟩ := at_of (α := Int) (by decide) (R := I64) hX
    exact ⟨some a, cap, l, rfl, by simp [maxLen] at hm ⊢; omega, hR, hat⟩
end Go.Proofs.YtclgdghfcjkhfaaGreat.Gen

/-
  Group: what the laws' to, sz, eq, mark and held functions of it do; the argument opened. No condition but that its lists have at most 1048576 numbers.
-/
namespace Go.Proofs.YtclgdghfcjkhfaaGreat.Gen
open Go.ChangeShapes Go.WideShapes Go.ChangeAt Go.RowKit Go.Joins Go.Deep Base
set_option linter.unusedVariables false

set_option maxRecDepth 100000 in
theorem szGroup_any (gen : Int) (A B C : Option Addr) (nm nb no ca cb cc : Nat) (hm : nm ≤ 9223372036854775807) (hb : nb ≤ 9223372036854775807) (ho : no ≤ 9223372036854775807) (left : Int) (h0 : 0 ≤ left) (h1 : left ≤ 1048576) (w : World) :
    Calls Tryz.prog 98 #[.agg #[.int .i64 gen, .slice A nm ca, .slice B nb cb, .slice C no cc], .int .i64 left] w fun e w' => e = .returned (.int .i64 (if left < (nm + nb + no : Nat) then -1 else left - (nm + nb + no : Nat))) ∧ Below w.heap.size w w' := by
  generalize hans : (if left < ((nm + nb + no : Nat) : Int) then (-1 : Int) else left - ((nm + nb + no : Nat) : Int)) = ans
  have Hans := hidP hans
  clear hans
  go_enter Tryz.func98, Tryz.ntmps98
  go_wp2_with fail
  refine (szInt_any A nm ca hm left h0 h1 _).mono ?_
  by_cases k1 : left < nm
  · rw [if_pos k1]
    rintro e w1 ⟨rfl, rfl⟩
    have e : ans = -1 := by rw [← Hans.out, if_pos (by omega)]
    subst e
    go_wp2
    go_ret
    exact ⟨rfl, by repeat (first | exact Below.refl _ _ | assumption | refine via0 (by assumption) ?_ | refine Below.drew ?_ | refine alloc0 ?_ _)⟩
  rw [if_neg k1]
  rintro e w1 ⟨rfl, rfl⟩
  have k1' : ¬ left - (nm : Int) < 0 := by omega
  go_wp2_with fail
  refine (szInt_any B nb cb hb (left - nm) (by omega) (by omega) _).mono ?_
  by_cases k2 : left - nm < nb
  · rw [if_pos k2]
    rintro e w1 ⟨rfl, rfl⟩
    have e : ans = -1 := by rw [← Hans.out, if_pos (by omega)]
    subst e
    go_wp2
    go_ret
    exact ⟨rfl, by repeat (first | exact Below.refl _ _ | assumption | refine via0 (by assumption) ?_ | refine Below.drew ?_ | refine alloc0 ?_ _)⟩
  rw [if_neg k2]
  rintro e w1 ⟨rfl, rfl⟩
  have k2' : ¬ left - (nm : Int) - (nb : Int) < 0 := by omega
  go_wp2_with fail
  refine (szInt_any C no cc ho (left - nm - nb) (by omega) (by omega) _).mono ?_
  by_cases k3 : left - nm - nb < no
  · rw [if_pos k3]
    rintro e w1 ⟨rfl, rfl⟩
    have e : ans = -1 := by rw [← Hans.out, if_pos (by omega)]
    subst e
    go_wp2
    go_ret
    exact ⟨rfl, by repeat (first | exact Below.refl _ _ | assumption | refine via0 (by assumption) ?_ | refine Below.drew ?_ | refine alloc0 ?_ _)⟩
  rw [if_neg k3]
  rintro e w1 ⟨rfl, rfl⟩
  have k3' : ¬ left - (nm : Int) - (nb : Int) - (no : Int) < 0 := by omega
  have e : ans = left - (nm : Int) - (nb : Int) - (no : Int) := by rw [← Hans.out, if_neg (by omega)]; omega
  subst e
  go_wp2
  go_ret
  exact ⟨rfl, by repeat (first | exact Below.refl _ _ | assumption | refine via0 (by assumption) ?_ | refine Below.drew ?_ | refine alloc0 ?_ _)⟩

/-- Three lists of numbers in three blocks of their own, none below n. -/
structure Three (n : Nat) (w : World) (x y z : Nat) (m b o : List Int) : Prop where
  nx : n ≤ x
  xy : x < y
  yz : y < z
  zs : z < w.heap.size
  im : In w x 0 m
  ib : In w y 0 b
  io : In w z 0 o
  tm : w.there x 0 (m.length * 1)
  tb : w.there y 0 (b.length * 1)
  to : w.there z 0 (o.length * 1)
theorem Three.below {n : Nat} {w w' : World} {x y z : Nat} {m b o : List Int} (h : Three n w x y z m b o) (g : Below w.heap.size w w') : Three n w' x y z m b o := by
  have hx : x < w.heap.size := Nat.lt_trans h.xy (Nat.lt_trans h.yz h.zs)
  have hy : y < w.heap.size := Nat.lt_trans h.yz h.zs
  exact ⟨h.nx, h.xy, h.yz, Nat.lt_of_lt_of_le h.zs g.size, h.im.below hx g, h.ib.below hy g, h.io.below h.zs g, there_below h.tm hx g, there_below h.tb hy g, there_below h.to h.zs g⟩
theorem Three.am {n : Nat} {w : World} {x y z : Nat} {m b o : List Int} (h : Three n w x y z m b o) : At w (some ⟨x, 0, none⟩) m := .inr ⟨x, 0, rfl, Nat.lt_trans h.xy (Nat.lt_trans h.yz h.zs), h.im⟩
theorem Three.ab {n : Nat} {w : World} {x y z : Nat} {m b o : List Int} (h : Three n w x y z m b o) : At w (some ⟨y, 0, none⟩) b := .inr ⟨y, 0, rfl, Nat.lt_trans h.yz h.zs, h.ib⟩
theorem Three.ao {n : Nat} {w : World} {x y z : Nat} {m b o : List Int} (h : Three n w x y z m b o) : At w (some ⟨z, 0, none⟩) o := .inr ⟨z, 0, rfl, h.zs, h.io⟩

set_option maxRecDepth 100000 in
set_option maxHeartbeats 1000000 in
theorem toGroup_any (gen : Int) (A B C : Option Addr) (ca cb cc : Nat) (m b o : List Int) (hm : m.length ≤ 1048576) (hb : b.length ≤ 1048576) (ho : o.length ≤ 1048576) (w : World) (hA : At w A m) (hB : At w B b) (hC : At w C o) :
    Calls Tryz.prog 106 #[.agg #[.int .i64 gen, .slice A m.length ca, .slice B b.length cb, .slice C o.length cc]] w
      fun e w' => ∃ x y z, e = .returned (.agg #[.int .i64 gen, .slice (some ⟨x, 0, none⟩) m.length m.length, .slice (some ⟨y, 0, none⟩) b.length b.length, .slice (some ⟨z, 0, none⟩) o.length o.length]) ∧ Below w.heap.size w w' ∧ Three w.heap.size w' x y z m b o := by
  have HA := hidP hA
  have HB := hidP hB
  have HC := hidP hC
  clear hA hB hC
  go_enter Tryz.func106, Tryz.ntmps106
  go_wp2_with fail
  refine (toInt_any A ca m hm _ (HA.out.below (by repeat (first | exact Below.refl _ _ | assumption | refine via0 (by assumption) ?_ | refine Below.drew ?_ | refine alloc0 ?_ _)))).mono ?_
  rintro e w1 ⟨rfl, g1, s1, i1, t1⟩
  have B1 : Below w.heap.size w w1 := via0 g1 (by repeat (first | exact Below.refl _ _ | assumption | refine via0 (by assumption) ?_ | refine Below.drew ?_ | refine alloc0 ?_ _))
  have p0 : Blk w1 w.heap.size 159 #[.int .i64 gen, .slice A m.length ca, .slice B b.length cb, .slice C o.length cc] := (((Blk.new w 159 #[.int .i64 gen, .slice A m.length ca, .slice B b.length cb, .slice C o.length cc]).alloc _).alloc _).below g1 (by simp; omega)
  have p1 : Blk w1 (w.heap.size + 1) 100 #[.int .i64 0, .slice none 0 0, .slice none 0 0, .slice none 0 0] := by
    have := ((Blk.new (w.alloc (.cells #[.int .i64 gen, .slice A m.length ca, .slice B b.length cb, .slice C o.length cc] 159)) 100 #[.int .i64 0, .slice none 0 0, .slice none 0 0, .slice none 0 0]).alloc _).below g1 (by simp)
    simpa using this
  have p2 : Blk w1 (w.heap.size + 1 + 1) 100 #[.int .i64 gen, .slice none 0 0, .slice none 0 0, .slice none 0 0] := by
    have := (Blk.new ((w.alloc (.cells #[.int .i64 gen, .slice A m.length ca, .slice B b.length cb, .slice C o.length cc] 159)).alloc (.cells #[.int .i64 0, .slice none 0 0, .slice none 0 0, .slice none 0 0] 100)) 100 #[.int .i64 gen, .slice none 0 0, .slice none 0 0, .slice none 0 0]).below g1 (by simp)
    simpa using this
  simp only [World.size_alloc] at s1 i1 t1 ⊢
  clear g1
  obtain ⟨u0, u1, u2, u3⟩ := p0.row4
  obtain ⟨n0, n1, n2, n3⟩ := p2.row4
  have f0 := p2.thaw 0
  have f1 := p2.thaw 1
  have f2 := p2.thaw 2
  have f3 := p2.thaw 3
  have q0 := p0.lt
  have q2 := p2.lt
  go_wp2_with fail
  have B1' : Below w.heap.size w (w1.setCell ⟨w.heap.size + 1 + 1, 1, none⟩ (.slice (some ⟨w.heap.size + 1 + 1 + 1, 0, none⟩) m.length m.length)) := bl_set B1 (by omega) _
  refine (toInt_any B cb b hb _ (HB.out.below B1')).mono ?_
  rintro e w2 ⟨rfl, g2, s2, i2, t2⟩
  rw [World.size_setCell] at s2 i2 t2
  have B2 : Below w.heap.size w w2 := via0 g2 B1'
  have r0 : Blk w2 w.heap.size 159 #[.int .i64 gen, .slice A m.length ca, .slice B b.length cb, .slice C o.length cc] := (p0.other (by omega) _ _).below g2 (by rw [World.size_setCell]; omega)
  have r1 : Blk w2 (w.heap.size + 1) 100 #[.int .i64 0, .slice none 0 0, .slice none 0 0, .slice none 0 0] := (p1.other (by omega) _ _).below g2 (by rw [World.size_setCell]; omega)
  have r2 : Blk w2 (w.heap.size + 1 + 1) 100 #[.int .i64 gen, (.slice (some ⟨w.heap.size + 1 + 1 + 1, 0, none⟩) m.length m.length), .slice none 0 0, .slice none 0 0] := (p2.setAt 1 (.slice (some ⟨w.heap.size + 1 + 1 + 1, 0, none⟩) m.length m.length)).below g2 (by rw [World.size_setCell]; omega)
  have i1' := (i1.set ⟨w.heap.size + 1 + 1, 1, none⟩ (.slice (some ⟨w.heap.size + 1 + 1 + 1, 0, none⟩) m.length m.length) (by simp)).below (by rw [World.size_setCell]; omega) g2
  have t1' := there_below (there_set t1 (w.heap.size + 1 + 1) 1 (.slice (some ⟨w.heap.size + 1 + 1 + 1, 0, none⟩) m.length m.length)) (by rw [World.size_setCell]; omega) g2
  rw [World.size_setCell]
  clear u0 u1 u2 u3 n0 n1 n2 n3 f0 f1 f2 f3 q0 q2 p0 p1 p2 g2 B1 B1' i1 t1
  obtain ⟨u0, u1, u2, u3⟩ := r0.row4
  obtain ⟨n0, n1, n2, n3⟩ := r2.row4
  have f0 := r2.thaw 0
  have f1 := r2.thaw 1
  have f2 := r2.thaw 2
  have f3 := r2.thaw 3
  have q0 := r0.lt
  have q2 := r2.lt
  generalize hX2 : w1.heap.size = X2 at *
  go_wp2_with fail
  have B2' : Below w.heap.size w (w2.setCell ⟨w.heap.size + 1 + 1, 2, none⟩ (.slice (some ⟨X2, 0, none⟩) b.length b.length)) := bl_set B2 (by omega) _
  refine (toInt_any C cc o ho _ (HC.out.below B2')).mono ?_
  rintro e w3 ⟨rfl, g3, s3, i3, t3⟩
  rw [World.size_setCell] at s3 i3 t3
  have B3 : Below w.heap.size w w3 := via0 g3 B2'
  have z1 : Blk w3 (w.heap.size + 1) 100 #[.int .i64 0, .slice none 0 0, .slice none 0 0, .slice none 0 0] := (r1.other (by omega) _ _).below g3 (by rw [World.size_setCell]; omega)
  have z2 : Blk w3 (w.heap.size + 1 + 1) 100 #[.int .i64 gen, (.slice (some ⟨w.heap.size + 1 + 1 + 1, 0, none⟩) m.length m.length), (.slice (some ⟨X2, 0, none⟩) b.length b.length), .slice none 0 0] := (r2.setAt 2 (.slice (some ⟨X2, 0, none⟩) b.length b.length)).below g3 (by rw [World.size_setCell]; omega)
  have j1 := (i1'.set ⟨w.heap.size + 1 + 1, 2, none⟩ (.slice (some ⟨X2, 0, none⟩) b.length b.length) (by simp)).below (by rw [World.size_setCell]; omega) g3
  have k1 := there_below (there_set t1' (w.heap.size + 1 + 1) 2 (.slice (some ⟨X2, 0, none⟩) b.length b.length)) (by rw [World.size_setCell]; omega) g3
  have j2 := (i2.set ⟨w.heap.size + 1 + 1, 2, none⟩ (.slice (some ⟨X2, 0, none⟩) b.length b.length) (by simp; omega)).below (by rw [World.size_setCell]; omega) g3
  have k2 := there_below (there_set t2 (w.heap.size + 1 + 1) 2 (.slice (some ⟨X2, 0, none⟩) b.length b.length)) (by rw [World.size_setCell]; omega) g3
  rw [World.size_setCell]
  clear u0 u1 u2 u3 n0 n1 n2 n3 f0 f1 f2 f3 q0 q2 r0 r1 r2 g3 B2 B2' i1' t1' i2 t2
  obtain ⟨n0, n1, n2, n3⟩ := z2.row4
  obtain ⟨c0, c1, c2, c3⟩ := z1.row4
  have f0 := z2.thaw 0
  have f1 := z2.thaw 1
  have f2 := z2.thaw 2
  have f3 := z2.thaw 3
  have h0 := z1.thaw 0
  have h1 := z1.thaw 1
  have h2 := z1.thaw 2
  have h3 := z1.thaw 3
  have q1 := z1.lt
  have q2 := z2.lt
  generalize hX3 : w2.heap.size = X3 at *
  go_wp2
  refine bodyPost_ret (v := .agg #[.int .i64 gen, (.slice (some ⟨w.heap.size + 1 + 1 + 1, 0, none⟩) m.length m.length), (.slice (some ⟨X2, 0, none⟩) b.length b.length), (.slice (some ⟨X3, 0, none⟩) o.length o.length)]) (by simp [results, Tryz.results106, go_sem, c0, c1, c2, c3]) rfl ?_
  refine ⟨w.heap.size + 1 + 1 + 1, X2, X3, rfl, ?_, ?_⟩
  · exact bl_set (bl_set (bl_set (bl_set (bl_set B3 (by omega) _) (by omega) _) (by omega) _) (by omega) _) (by omega) _
  · refine ⟨by omega, by omega, by omega, by simp only [World.size_setCell]; omega, ?_, ?_, ?_, ?_, ?_, ?_⟩
    · exact In.set (In.set (In.set (In.set (In.set j1 _ _ (by simp)) _ _ (by simp)) _ _ (by simp)) _ _ (by simp)) _ _ (by simp)
    · exact In.set (In.set (In.set (In.set (In.set j2 _ _ (by simp; omega)) _ _ (by simp; omega)) _ _ (by simp; omega)) _ _ (by simp; omega)) _ _ (by simp; omega)
    · exact In.set (In.set (In.set (In.set (In.set i3 _ _ (by simp; omega)) _ _ (by simp; omega)) _ _ (by simp; omega)) _ _ (by simp; omega)) _ _ (by simp; omega)
    · exact there_set (there_set (there_set (there_set (there_set k1 _ _ _) _ _ _) _ _ _) _ _ _) _ _ _
    · exact there_set (there_set (there_set (there_set (there_set k2 _ _ _) _ _ _) _ _ _) _ _ _) _ _ _
    · exact there_set (there_set (there_set (there_set (there_set t3 _ _ _) _ _ _) _ _ _) _ _ _) _ _ _

set_option maxRecDepth 100000 in
theorem eqGroup_same (gen : Int) (A B C A' B' C' : Option Addr) (ca cb cc ca' cb' cc' : Nat) (m b o : List Int) (hm : m.length ≤ 9223372036854775807) (hb : b.length ≤ 9223372036854775807) (ho : o.length ≤ 9223372036854775807) (w : World)
    (hA : At w A m) (hB : At w B b) (hC : At w C o) (hA' : At w A' m) (hB' : At w B' b) (hC' : At w C' o) :
    Calls Tryz.prog 120 #[.agg #[.int .i64 gen, .slice A m.length ca, .slice B b.length cb, .slice C o.length cc], .agg #[.int .i64 gen, .slice A' m.length ca', .slice B' b.length cb', .slice C' o.length cc']] w fun e w' => e = .returned (.bool true) ∧ Below w.heap.size w w' := by
  have HA := hidP hA
  have HB := hidP hB
  have HC := hidP hC
  have HA' := hidP hA'
  have HB' := hidP hB'
  have HC' := hidP hC'
  clear hA hB hC hA' hB' hC'
  go_enter Tryz.func120, Tryz.ntmps120
  go_wp2_with fail
  have B0 : Below w.heap.size w ((w.alloc (.cells #[.int .i64 gen, .slice A m.length ca, .slice B b.length cb, .slice C o.length cc] 100)).alloc (.cells #[.int .i64 gen, .slice A' m.length ca', .slice B' b.length cb', .slice C' o.length cc'] 100)) := by repeat (first | exact Below.refl _ _ | assumption | refine via0 (by assumption) ?_ | refine Below.drew ?_ | refine alloc0 ?_ _)
  have p0 : Blk ((w.alloc (.cells #[.int .i64 gen, .slice A m.length ca, .slice B b.length cb, .slice C o.length cc] 100)).alloc (.cells #[.int .i64 gen, .slice A' m.length ca', .slice B' b.length cb', .slice C' o.length cc'] 100)) w.heap.size 100 #[.int .i64 gen, .slice A m.length ca, .slice B b.length cb, .slice C o.length cc] := (Blk.new w 100 #[.int .i64 gen, .slice A m.length ca, .slice B b.length cb, .slice C o.length cc]).alloc _
  have p1 : Blk ((w.alloc (.cells #[.int .i64 gen, .slice A m.length ca, .slice B b.length cb, .slice C o.length cc] 100)).alloc (.cells #[.int .i64 gen, .slice A' m.length ca', .slice B' b.length cb', .slice C' o.length cc'] 100)) (w.heap.size + 1) 100 #[.int .i64 gen, .slice A' m.length ca', .slice B' b.length cb', .slice C' o.length cc'] := by simpa using Blk.new (w.alloc (.cells #[.int .i64 gen, .slice A m.length ca, .slice B b.length cb, .slice C o.length cc] 100)) 100 #[.int .i64 gen, .slice A' m.length ca', .slice B' b.length cb', .slice C' o.length cc']
  refine (eqInt_same A A' ca ca' m hm _ (HA.out.below B0) (HA'.out.below B0)).mono ?_
  rintro e w1 ⟨rfl, g1⟩
  have B1 := via0 g1 B0
  have r0 := p0.below g1 p0.lt
  have r1 := p1.below g1 p1.lt
  clear p0 p1 g1 B0
  obtain ⟨u0, u1, u2, u3⟩ := r0.row4
  obtain ⟨n0, n1, n2, n3⟩ := r1.row4
  go_wp2_with fail
  refine (eqInt_same B B' cb cb' b hb _ (HB.out.below B1) (HB'.out.below B1)).mono ?_
  rintro e w2 ⟨rfl, g2⟩
  have B2 := via0 g2 B1
  have s0 := r0.below g2 r0.lt
  have s1 := r1.below g2 r1.lt
  clear r0 r1 g2 B1 u0 u1 u2 u3 n0 n1 n2 n3
  obtain ⟨u0, u1, u2, u3⟩ := s0.row4
  obtain ⟨n0, n1, n2, n3⟩ := s1.row4
  go_wp2_with fail
  refine (eqInt_same C C' cc cc' o ho _ (HC.out.below B2) (HC'.out.below B2)).mono ?_
  rintro e w3 ⟨rfl, g3⟩
  have B3 := via0 g3 B2
  go_wp2
  go_ret
  exact ⟨rfl, B3⟩

theorem cellsGroup : Tryz.prog.cellsOf 159 = 4 := by kernel_rfl
set_option maxRecDepth 100000 in
theorem openGroup {H : Type} {enc : TypeId × Value → H} {W : World} {base b0 : Nat} {r : Reach} {spare : Nat → Bool} {held : Bool} {v : Value} {d : DataW H} {p : List MemPlace}
    (hv : Value.okWide Tryz.prog W r b0 159 v) (h : DataW.Trod enc Tryz.prog W base spare held 159 v d p) :
    ∃ (gen : Int) (A B C : Option Addr) (ca cb cc : Nat) (m b o : List Int), v = .agg #[.int .i64 gen, .slice A m.length ca, .slice B b.length cb, .slice C o.length cc] ∧ I64 gen ∧ (m.length ≤ 9223372036854775807 ∧ b.length ≤ 9223372036854775807 ∧ o.length ≤ 9223372036854775807) ∧ ((∀ x ∈ m, I64 x) ∧ (∀ x ∈ b, I64 x) ∧ ∀ x ∈ o, I64 x) ∧ At W A m ∧ At W B b ∧ At W C o := by
  obtain ⟨cs, rfl, hsz⟩ := okWide_struct Tryz.underlying159 hv
  rw [cellsGroup] at hsz
  obtain ⟨c0, c1, c2, c3, rfl⟩ : ∃ c0 c1 c2 c3, cs = #[c0, c1, c2, c3] := by
    obtain ⟨l⟩ := cs
    match l, hsz with
    | [c0, c1, c2, c3], _ => exact ⟨c0, c1, c2, c3, rfl⟩
  obtain ⟨n, hf⟩ := fields_of Tryz.underlying159 (by kernel_rfl) h
  obtain ⟨y0, g0⟩ := hf 0 _ rfl _ rfl
  obtain ⟨y1, g1⟩ := hf 1 _ rfl _ rfl
  obtain ⟨y2, g2⟩ := hf 2 _ rfl _ rfl
  obtain ⟨y3, g3⟩ := hf 3 _ rfl _ rfl
  obtain ⟨gen, e0, _, w0⟩ := DataW.trod_int Tryz.underlying3 g0
  simp at e0
  subst e0
  obtain ⟨A, ca, m, rfl, a1, a2, a3⟩ := openInts g1
  obtain ⟨B, cb, b, rfl, b1, b2, b3⟩ := openInts g2
  obtain ⟨C, cc, o, rfl, o1, o2, o3⟩ := openInts g3
  exact ⟨gen, A, B, C, ca, cb, cc, m, b, o, rfl, i64_of w0, ⟨a1, b1, o1⟩, ⟨a2, b2, o2⟩, a3, b3, o3⟩
end Go.Proofs.YtclgdghfcjkhfaaGreat.Gen

/-
  Lists of groups, each with its three lists: how they lie, what the laws' to, sz, eq, mark and held functions of them do; the argument opened. No condition but that there are at most 1048576.
-/
namespace Go.Proofs.YtclgdghfcjkhfaaGreat.Gen
open Go.ChangeShapes Go.WideShapes Go.ChangeAt Go.RowKit Go.Joins Go.Deep Base
set_option linter.unusedVariables false
set_option linter.unusedSimpArgs false

/-- A group as it lies in a list: its lists lie elsewhere. -/
structure GC where
  gen : Int
  a1 : Option Addr
  c1 : Nat
  m : List Int
  a2 : Option Addr
  c2 : Nat
  b : List Int
  a3 : Option Addr
  c3 : Nat
  o : List Int
instance : Inhabited GC := ⟨⟨0, none, 0, [], none, 0, [], none, 0, []⟩⟩
instance : Cel GC where
  k := 4
  cs x := [.int .i64 x.gen, .slice x.a1 x.m.length x.c1, .slice x.a2 x.b.length x.c2, .slice x.a3 x.o.length x.c3]
  len _ := rfl
  one x u hu := by simp at hu; rcases hu with rfl | rfl | rfl | rfl <;> rfl
/-- A group's content. -/
structure PG where
  gen : Int
  m : List Int
  b : List Int
  o : List Int
def GC.p (x : GC) : PG := ⟨x.gen, x.m, x.b, x.o⟩
def GC.right (x : GC) : Prop := I64 x.gen ∧ (x.m.length ≤ 9223372036854775807 ∧ x.b.length ≤ 9223372036854775807 ∧ x.o.length ≤ 9223372036854775807) ∧ (∀ y ∈ x.m, I64 y) ∧ (∀ y ∈ x.b, I64 y) ∧ ∀ y ∈ x.o, I64 y
def atG (w : World) (x : GC) : Prop := At w x.a1 x.m ∧ At w x.a2 x.b ∧ At w x.a3 x.o
theorem atG.below {w w' : World} {x : GC} (h : atG w x) (hw : Below w.heap.size w w') : atG w' x := ⟨h.1.below hw, h.2.1.below hw, h.2.2.below hw⟩
def EachG (w : World) (l : List GC) : Prop := ∀ x ∈ l, atG w x
theorem EachG.below {w w' : World} {l : List GC} (h : EachG w l) (hw : Below w.heap.size w w') : EachG w' l := fun x hx => (h x hx).below hw
/-- A group's lists in blocks of S, no two in one. -/
def grpP (w : World) (x : GC) (S : Nat → Prop) : Prop :=
  ∃ S1 S2 S3 : Nat → Prop, (∀ y, S1 y → S y) ∧ (∀ y, S2 y → S y) ∧ (∀ y, S3 y → S y) ∧ (∀ y, S1 y → ¬ S2 y) ∧ (∀ y, S1 y → ¬ S3 y) ∧ (∀ y, S2 y → ¬ S3 y) ∧ Sub w x.a1 x.m S1 ∧ Sub w x.a2 x.b S2 ∧ Sub w x.a3 x.o S3
theorem grpP_firm : Firm grpP := fun w w' x S T ⟨S1, S2, S3, i1, i2, i3, d1, d2, d3, s1, s2, s3⟩ k hd =>
  ⟨S1, S2, S3, i1, i2, i3, d1, d2, d3, s1.offp k (fun y hy => hd y (i1 y hy)), s2.offp k (fun y hy => hd y (i2 y hy)), s3.offp k (fun y hy => hd y (i3 y hy))⟩
theorem grpP_at {w : World} {x : GC} {S : Nat → Prop} (h : grpP w x S) : atG w x := by
  obtain ⟨S1, S2, S3, i1, i2, i3, d1, d2, d3, s1, s2, s3⟩ := h
  exact ⟨s1.at, s2.at, s3.at⟩
theorem grpP_each {S : Nat → Prop} {w : World} {a : Option Addr} {l : List GC} (h : Own grpP w a l S) : EachG w l := h.each (fun x S hx => grpP_at hx)

theorem In.getGC {w : World} {b o : Nat} {l : List GC} (h : In w b o l) (i : Nat) (hi : i < l.length) :
    w.cell? ⟨b, o + i * 4, none⟩ = some (.int .i64 l[i].gen) ∧ w.cell? ⟨b, o + i * 4 + 1, none⟩ = some (.slice l[i].a1 l[i].m.length l[i].c1) ∧ w.cell? ⟨b, o + i * 4 + 2, none⟩ = some (.slice l[i].a2 l[i].b.length l[i].c2) ∧ w.cell? ⟨b, o + i * 4 + 3, none⟩ = some (.slice l[i].a3 l[i].o.length l[i].c3) :=
  ⟨h.cell i hi (f := 0) rfl, h.cell i hi (f := 1) rfl, h.cell i hi (f := 2) rfl, h.cell i hi (f := 3) rfl⟩
theorem infoGC : (Tryz.prog.info? 100).map (fun i => (i.zero, i.size, i.bytes)) = some (some (.agg #[.int .i64 0, .slice none 0 0, .slice none 0 0, .slice none 0 0]), 4, 80) := by kernel_rfl
def szGC (x : GC) : Nat := x.m.length + x.b.length + x.o.length

set_option maxRecDepth 100000 in
set_option maxHeartbeats 1000000 in
theorem szGroupS_any (A : Option Addr) (cap : Nat) (l : List GC) (hl : l.length ≤ 9223372036854775807) (hr : ∀ x ∈ l, x.right) (left : Int) (h0 : 0 ≤ left) (h1 : left ≤ 1048576) (w : World) (hA : At w A l) (hE : EachG w l) :
    Calls Tryz.prog 40 #[.slice A l.length cap, .int .i64 left] w fun e w' => (∃ r : Int, e = .returned (.int .i64 r) ∧ (r < 0 ∨ (0 ≤ r ∧ r = left - (l.length : Int) - (count szGC l : Int)))) ∧ Below w.heap.size w w' := by
  have HA := hidP hA
  have Hr := hidP hr
  have HE := hidP hE
  clear hA hr hE
  by_cases h : left < (l.length : Int)
  · have g : left - (l.length : Int) < 0 := by omega
    go_enter Tryz.func40, Tryz.ntmps40
    go_wp2
    go_ret
    exact ⟨⟨-1, rfl, .inl (by omega)⟩, Below.refl _ _⟩
  · have g : ¬ left - (l.length : Int) < 0 := by omega
    go_enter Tryz.func40, Tryz.ntmps40
    go_wp2
    go_loopw [1, 5] (fun q i w' => ∃ (n : Nat) (z : Int), i = .int .i64 (n : Int) ∧ q = .int .i64 z ∧ n ≤ l.length ∧ 0 ≤ z ∧ z ≤ 1048576 ∧ Hid (z = left - (l.length : Int) - (count szGC (l.take n) : Int)) ∧ Below w.heap.size w w') (fun _ i _ => l.length - (intOf i).toNat)
    case atStart => exact ⟨0, _, rfl, rfl, by omega, by omega, by omega, by simp [Hid, count], Below.refl _ _⟩
    case round =>
      obtain ⟨n, z, rfl, rfl, hn, hz0, hz1, hz, hbl⟩ := hrel
      by_cases hlt : n < l.length
      · obtain ⟨b, o, rfl, hbs, hIn⟩ : ∃ b o, A = some ⟨b, o, none⟩ ∧ b < w.heap.size ∧ In w b o l := by
          rcases HA.out with h | h
          · subst h; simp at hlt
          · exact h
        obtain ⟨c0, c1, c2, c3⟩ := (hIn.below hbs hbl).getGC n hlt
        have hms := hidP (Hr.out _ (List.getElem_mem hlt))
        have hsn := hidP (count_snoc szGC l n hlt)
        by_cases hs : z < ((l[n].m.length + l[n].b.length + l[n].o.length : Nat) : Int)
        · go_wp2_with fail
          refine (szGroup_any _ _ _ _ _ _ _ _ _ _ hms.out.2.1.1 hms.out.2.1.2.1 hms.out.2.1.2.2 z hz0 hz1 _).mono ?_
          rw [if_pos hs]
          rintro e w1 ⟨rfl, g1⟩
          go_wp2
          go_ret
          exact ⟨⟨-1, rfl, .inl (by omega)⟩, via0 g1 hbl⟩
        · obtain ⟨r, hr⟩ : ∃ r : Int, r = z - ((l[n].m.length + l[n].b.length + l[n].o.length : Nat) : Int) := ⟨_, rfl⟩
          have hp : ¬ r < 0 := by omega
          have HS := hidP hs
          have HR1 := hidP hr
          clear hr hs
          go_wp2_with fail
          refine (szGroup_any _ _ _ _ _ _ _ _ _ _ hms.out.2.1.1 hms.out.2.1.2.1 hms.out.2.1.2.2 z hz0 hz1 _).mono ?_
          rw [if_neg (by have := HS.out; omega), ← HR1.out]
          rintro e w1 ⟨rfl, g1⟩
          go_wp2
          have hz' := hz.out
          have hsn' := hsn.out
          have hr' := HR1.out
          exact ⟨⟨n + 1, r, by go_num, rfl, by omega, by omega, by omega, by show _ = _; rw [hsn', hr', hz']; simp only [szGC]; omega, via0 g1 hbl⟩, by simp [intOf]; omega⟩
      · have e : l.take n = l := List.take_of_length_le (by omega)
        go_wp2
        go_ret
        have hz' := hz.out
        rw [e] at hz'
        exact ⟨⟨z, rfl, .inr ⟨hz0, hz'⟩⟩, hbl⟩

theorem three_P {n : Nat} {w : World} {x y z : Nat} {m b o : List Int} {gen : Int} {c1 c2 c3 : Nat} (h : Three n w x y z m b o) : grpP w ⟨gen, some ⟨x, 0, none⟩, c1, m, some ⟨y, 0, none⟩, c2, b, some ⟨z, 0, none⟩, c3, o⟩ (fun i => i = x ∨ i = y ∨ i = z) := by
  have h2 := h.xy; have h3 := h.yz; have h4 := h.zs
  exact ⟨fun i => i = x, fun i => i = y, fun i => i = z, fun _ e => .inl e, fun _ e => .inr (.inl e), fun _ e => .inr (.inr e), fun _ e e' => by omega, fun _ e e' => by omega, fun _ e e' => by omega,
    .inr ⟨x, 0, rfl, rfl, by omega, h.im, h.tm⟩, .inr ⟨y, 0, rfl, rfl, by omega, h.ib, h.tb⟩, .inr ⟨z, 0, rfl, rfl, h.zs, h.io, h.to⟩⟩

set_option maxRecDepth 100000 in
set_option maxHeartbeats 1000000 in
theorem toGroupS_any (A : Option Addr) (cap : Nat) (l : List GC) (hl : l.length ≤ 1048576) (hr : ∀ x ∈ l, x.m.length ≤ 1048576 ∧ x.b.length ≤ 1048576 ∧ x.o.length ≤ 1048576) (w : World) (hA : At w A l) (hE : EachG w l) :
    Calls Tryz.prog 52 #[.slice A l.length cap] w fun e w' => e = .returned (.slice (some ⟨w.heap.size, 0, none⟩) l.length l.length) ∧ Below w.heap.size w w' ∧ ∃ l', Grow grpP w' w.heap.size l.length l' ∧ l'.map GC.p = l.map GC.p := by
  have HA := hidP hA
  have HE := hidP hE
  have Hr := hidP hr
  clear hA hE hr
  have hmk := make_els (P := Tryz.prog) Tryz.underlying45 infoGC (by omega) l.length hl
  go_enter Tryz.func52, Tryz.ntmps52
  go_wp2
  go_loopw [4] (fun i w' => ∃ (n : Nat) (pre : List GC), i = .int .i64 (n : Int) ∧ n ≤ l.length ∧ Below w.heap.size w w' ∧ w.heap.size < w'.heap.size ∧ Hid (pre.length = n) ∧ Hid (Grow grpP w' w.heap.size l.length pre) ∧ Hid (pre.map GC.p = (l.take n).map GC.p)) (fun i _ => l.length - (intOf i).toNat)
  case atStart => exact ⟨0, [], rfl, by omega, by repeat (first | exact Below.refl _ _ | assumption | refine via0 (by assumption) ?_ | refine Below.drew ?_ | refine alloc0 ?_ _), by simp, rfl, Grow.start (by simp) (made_there w _ _ _ _), by simp [Hid]⟩
  case round =>
    obtain ⟨n, pre, rfl, hn, hbl, hsz, hpl, hgr, hsame⟩ := hrel
    by_cases hlt : n < l.length
    · obtain ⟨b, o, rfl, hbs, hIn⟩ : ∃ b o, A = some ⟨b, o, none⟩ ∧ b < w.heap.size ∧ In w b o l := by
        rcases HA.out with h | h
        · subst h; simp at hlt
        · exact h
      obtain ⟨c0, c1, c2, c3⟩ := (hIn.below hbs hbl).getGC n hlt
      have hms := Hr.out _ (List.getElem_mem hlt)
      have hat := hidP ((HE.out _ (List.getElem_mem hlt)).below hbl)
      obtain ⟨⟨v0, d0⟩, f0⟩ := there_at (f := 0) hgr.out.th hlt (by decide)
      obtain ⟨⟨v1, d1⟩, f1⟩ := there_at (f := 1) hgr.out.th hlt (by decide)
      obtain ⟨⟨v2, d2⟩, f2⟩ := there_at (f := 2) hgr.out.th hlt (by decide)
      obtain ⟨⟨v3, d3⟩, f3⟩ := there_at (f := 3) hgr.out.th hlt (by decide)
      simp only [Nat.zero_add, Nat.add_zero, show Cel.k GC = 4 from rfl] at d0 f0 d1 f1 d2 f2 d3 f3
      go_wp2_with (go_at_call 106; refine (toGroup_any _ _ _ _ _ _ _ _ _ _ hms.1 hms.2.1 hms.2.2 _ hat.out.1 hat.out.2.1 hat.out.2.2).mono ?_; rintro e w1 ⟨bx, by1, bz, rfl, g1, h3⟩; obtain ⟨k1, m1⟩ := bcell g1; have s1 := g1.size; have H3 := hidP h3; clear h3)
      have hpl' := hpl.out
      have t3 := H3.out
      have hst := hgr.out.snoc grpP_firm (by omega) g1 (y := (⟨l[n].gen, some ⟨bx, 0, none⟩, l[n].m.length, l[n].m, some ⟨by1, 0, none⟩, l[n].b.length, l[n].b, some ⟨bz, 0, none⟩, l[n].o.length, l[n].o⟩ : GC)) (S := fun x => x = bx ∨ x = by1 ∨ x = bz) (three_P H3.out) (fun x hx => by have h1 := t3.nx; have h2 := t3.xy; have h3 := t3.yz; have h4 := t3.zs; rcases hx with rfl | rfl | rfl <;> exact ⟨by omega, by omega⟩)
      rw [hpl'] at hst
      refine ⟨⟨n + 1, _, by go_num, by omega, ?_, by simp; omega, ?_, hst, ?_⟩, by simp [intOf]; omega⟩
      · exact (((((via0 g1 hbl).setCell (Nat.le_refl _) _).setCell (Nat.le_refl _) _).setCell (Nat.le_refl _) _).setCell (Nat.le_refl _) _)
      · show _ = _; simp [hpl']
      · show _ = _
        rw [List.map_append, hsame.out, List.take_succ_eq_append_getElem hlt, List.map_append]
        rfl
    · have e : l.take n = l := List.take_of_length_le (by omega)
      go_wp2
      go_ret
      exact ⟨rfl, hbl, pre, hgr.out, by rw [hsame.out, e]⟩

set_option maxRecDepth 100000 in
set_option maxHeartbeats 1000000 in
theorem eqGroupS_same (A A' : Option Addr) (cap cap' : Nat) (l l' : List GC) (hl : l.length ≤ 9223372036854775807) (hr : ∀ x ∈ l, x.m.length ≤ 9223372036854775807 ∧ x.b.length ≤ 9223372036854775807 ∧ x.o.length ≤ 9223372036854775807) (hsame : l'.map GC.p = l.map GC.p) (w : World) (hA : At w A l) (hE : EachG w l) (hA' : At w A' l') (hE' : EachG w l') :
    Calls Tryz.prog 75 #[.slice A l.length cap, .slice A' l.length cap'] w fun e w' => e = .returned (.bool true) ∧ Below w.heap.size w w' := by
  have HA := hidP hA
  have HE := hidP hE
  have HA' := hidP hA'
  have HE' := hidP hE'
  have Hr := hidP hr
  have HS := hidP hsame
  have HLL : Hid (l'.length = l.length) := by have := congrArg List.length hsame; show _ = _; simpa using this
  clear hA hE hA' hE' hr hsame
  go_enter Tryz.func75, Tryz.ntmps75
  go_wp2
  go_loopw [5] (fun i w' => ∃ (n : Nat), i = .int .i64 (n : Int) ∧ n ≤ l.length ∧ Below w.heap.size w w') (fun i _ => l.length - (intOf i).toNat)
  case atStart => exact ⟨0, rfl, by omega, Below.refl _ _⟩
  case round =>
    obtain ⟨n, rfl, hn, hbl⟩ := hrel
    by_cases hlt : n < l.length
    · have hll := HLL.out
      obtain ⟨b, o, rfl, hbs, hin⟩ : ∃ b o, A = some ⟨b, o, none⟩ ∧ b < w.heap.size ∧ In w b o l := by
        rcases HA.out with h | h
        · subst h; simp at hlt
        · exact h
      obtain ⟨b', o', rfl, hbs', hin'⟩ : ∃ b o, A' = some ⟨b, o, none⟩ ∧ b < w.heap.size ∧ In w b o l' := by
        rcases HA'.out with h | h
        · subst h; simp at hll; omega
        · exact h
      have hp : (l'[n]'(by omega)).p = l[n].p := by
        have h1 : (l'.map GC.p)[n]'(by simp; omega) = (l.map GC.p)[n]'(by simpa using hlt) := by simp only [HS.out]
        simpa using h1
      obtain ⟨c0, c1, c2, c3⟩ := (hin.below hbs hbl).getGC n hlt
      obtain ⟨d0, d1, d2, d3⟩ := (hin'.below hbs' hbl).getGC n (by omega)
      have hat := HE.out _ (List.getElem_mem hlt)
      have hat' := HE'.out _ (List.getElem_mem (show n < l'.length by omega))
      have hms := Hr.out _ (List.getElem_mem hlt)
      generalize l'[n]'(by omega) = y at hp d0 d1 d2 d3 hat'
      generalize l[n] = x at hp c0 c1 c2 c3 hat hms
      obtain ⟨yg, y1, yc1, ym, y2, yc2, yb, y3, yc3, yo⟩ := y
      obtain ⟨xg, x1, xc1, xm, x2, xc2, xb, x3, xc3, xo⟩ := x
      simp only [GC.p, PG.mk.injEq] at hp
      obtain ⟨rfl, rfl, rfl, rfl⟩ := hp
      simp only at c0 c1 c2 c3 d0 d1 d2 d3 hms
      have Hat := hidP (hat.below hbl)
      have Hat' := hidP (hat'.below hbl)
      clear hat hat' hll
      have hb1 : b < wr.heap.size := Nat.lt_of_lt_of_le hbs hbl.size
      have hb2 : b' < wr.heap.size := Nat.lt_of_lt_of_le hbs' hbl.size
      have hi0 : (0 : Int) ≤ (n : Int) := by omega
      have hi1 : (n : Int) < (l.length : Int) := by omega
      go_wp2
      go_region_held3 (fun w' => w'.cell? ⟨b, o + n * 4, none⟩ = some (.int .i64 yg) ∧ w'.cell? ⟨b, o + n * 4 + 1, none⟩ = some (.slice x1 ym.length xc1) ∧ w'.cell? ⟨b, o + n * 4 + 2, none⟩ = some (.slice x2 yb.length xc2) ∧ w'.cell? ⟨b, o + n * 4 + 3, none⟩ = some (.slice x3 yo.length xc3) ∧
          w'.cell? ⟨b', o' + n * 4, none⟩ = some (.int .i64 yg) ∧ w'.cell? ⟨b', o' + n * 4 + 1, none⟩ = some (.slice y1 ym.length yc1) ∧ w'.cell? ⟨b', o' + n * 4 + 2, none⟩ = some (.slice y2 yb.length yc2) ∧ w'.cell? ⟨b', o' + n * 4 + 3, none⟩ = some (.slice y3 yo.length yc3) ∧ wr.heap.size ≤ w'.heap.size)
        (first | (go_split_ands; refine ⟨?_, ?_, ?_, ?_, ?_, ?_, ?_, ?_, ?_⟩ <;> first | assumption | exact (k1 _ _ hb1).trans (by assumption) | exact (k1 _ _ hb2).trans (by assumption) | exact s1 | (simp; done)) | go_keep)
        (first
          | (go_at_call 120; refine (eqGroup_same _ _ _ _ _ _ _ _ _ _ _ _ _ ym yb yo hms.1 hms.2.1 hms.2.2 _ (Hat.out.1.below (Below.drew (Below.refl _ _))) (Hat.out.2.1.below (Below.drew (Below.refl _ _))) (Hat.out.2.2.below (Below.drew (Below.refl _ _))) (Hat'.out.1.below (Below.drew (Below.refl _ _))) (Hat'.out.2.1.below (Below.drew (Below.refl _ _))) (Hat'.out.2.2.below (Below.drew (Below.refl _ _)))).mono ?_; rintro e w1 ⟨rfl, g1⟩; obtain ⟨k1, m1⟩ := bcell g1; have s1 := g1.size))
      all_goals
        go_wp2
        exact ⟨⟨n + 1, by go_num, by omega, via0 g1 hbl.drew⟩, by simp [intOf]; omega⟩
    · go_wp2
      go_ret
      exact ⟨rfl, hbl⟩

def cG (x : GC) : Nat := 1 + x.m.length + x.b.length + x.o.length
def mG (x : GC) (z : Int) : GC := ⟨z, x.a1, x.c1, marksInt x.m.length (z + 1), x.a2, x.c2, marksInt x.b.length (z + 1 + x.m.length), x.a3, x.c3, marksInt x.o.length (z + 1 + x.m.length + x.b.length)⟩

/-- Numbers marked where they lie. -/
theorem mark_ints (a : Option Addr) (cap : Nat) (l : List Int) (S : Nat → Prop) (k : Int) (hk : 1 ≤ k) (hk' : k ≤ 100000000) (hl : l.length ≤ 2000000) (w : World) (h : Sub w a l S) :
    Calls Tryz.prog 93 #[.slice a l.length cap, .int .i64 k] w fun e w' => e = .returned (.int .i64 (k + (l.length : Int))) ∧ Offp S w w' ∧ Sub w' a (marksInt l.length k) S := by
  rcases h with rfl | ⟨b, o, rfl, hS, hb, hi, ht⟩
  · refine (markInt_none a cap k w).mono ?_
    rintro e w' ⟨rfl, rfl⟩
    exact ⟨by simp, Offp.refl _ _, .inl rfl⟩
  · refine (markInt_any b o cap l.length k hk hk' hl w hb ht).mono ?_
    rintro e w' ⟨rfl, ko, hin, hth⟩
    exact ⟨rfl, (Offp.of_only ko).mono (fun x e => e ▸ hS), .inr ⟨b, o, rfl, hS, Nat.lt_of_lt_of_le hb ko.size, hin, by rw [marksInt_length]; exact hth⟩⟩

set_option maxRecDepth 100000 in
set_option maxHeartbeats 1000000 in
theorem markGroupS_any (b o cap : Nat) (l : List GC) (fp : Nat → Nat → Prop) (k : Int) (hk : 1 ≤ k) (hk' : k ≤ 50000000) (hc : count cG l ≤ 50000000) (hl : l.length ≤ 1048576) (hs : ∀ x ∈ l, x.m.length ≤ 1048576 ∧ x.b.length ≤ 1048576 ∧ x.o.length ≤ 1048576) (w : World) (hO : OwnF grpP w b o l fp) :
    Calls Tryz.prog 92 #[.slice (some ⟨b, o, none⟩) l.length cap, .int .i64 k] w fun e w' => e = .returned (.int .i64 (k + (count cG l : Int))) ∧ Offp (fun x => x = b ∨ ∃ i, fp i x) w w' ∧ OwnF grpP w' b o (marked mG cG l k) fp := by
  have HO := hidP hO
  have Hs := hidP hs
  have Hc := hidP hc
  clear hO hs hc
  go_enter Tryz.func92, Tryz.ntmps92
  go_wp2
  go_loopw [1, 5] (fun kk i w' => ∃ (n : Nat) (z : Int), i = .int .i64 (n : Int) ∧ kk = .int .i64 z ∧ n ≤ l.length ∧ 1 ≤ z ∧ z ≤ 100000000 ∧ Hid (z = k + (count cG (l.take n) : Int)) ∧ Hid (Offp (fun x => x = b ∨ ∃ i, fp i x) w w') ∧ Hid (OwnF grpP w' b o (half mG cG l k n) fp)) (fun _ i _ => l.length - (intOf i).toNat)
  case atStart => exact ⟨0, k, rfl, rfl, by omega, hk, by omega, by simp [Hid, count], Offp.refl _ _, by rw [half_zero]; exact HO.out⟩
  case round =>
    obtain ⟨n, z, rfl, rfl, hn, hz1, hz2, hz, hoff, hown⟩ := hrel
    by_cases hlt : n < l.length
    · have hhl := half_length mG cG l k n
      have hge := half_get mG cG l k n hlt (by omega)
      have hit := Hs.out _ (List.getElem_mem hlt)
      obtain ⟨c0, c1, c2, c3⟩ := hown.out.lst.getGC n (by omega)
      have hth := hown.out.th
      rw [hhl] at hth
      obtain ⟨_, f0⟩ := there_at (f := 0) hth hlt (by decide)
      simp only [Nat.add_zero, show Cel.k GC = 4 from rfl] at f0
      rw [hge] at c0 c1 c2 c3
      have hsu := half_succ mG cG l k n hlt
      rw [← hz.out] at hsu
      have hcn : count cG (l.take n) + cG l[n] ≤ 50000000 := by rw [← count_snoc cG l n hlt]; exact Nat.le_trans (count_le cG l (n + 1)) Hc.out
      have Hsn := hidP (count_snoc cG l n hlt)
      generalize hx : l[n] = x at c0 c1 c2 c3 hit hsu hcn hge Hsn
      obtain ⟨xg, x1, xc1, xm, x2, xc2, xb, x3, xc3, xo⟩ := x
      simp only at c0 c1 c2 c3 hit
      have O1 := hown.out.set1 grpP_firm n (by omega) ⟨z, x1, xc1, xm, x2, xc2, xb, x3, xc3, xo⟩ 0 (by decide) (.int .i64 z) (by rw [hge]; rfl) (fun W S h => by rw [hge] at h; exact h)
      simp only [Nat.add_zero, show Cel.k GC = 4 from rfl] at O1
      have Hhl := hidP hhl
      have Hsu := hidP hsu
      have Hcn := hidP hcn
      have HO1 := hidP O1
      have hsub := O1.sub n (by simp; omega)
      rw [List.getElem_set_self] at hsub
      obtain ⟨S1, S2, S3, i1, i2, i3, e1, e2, e3, s1, s2, s3⟩ := hsub
      have hlen : n < ((half mG cG l k n).set n ⟨z, x1, xc1, xm, x2, xc2, xb, x3, xc3, xo⟩).length := by rw [List.length_set]; omega
      have Hlen := hidP hlen
      have H1 := hidP s1
      have H2 := hidP s2
      have H3 := hidP s3
      have hzc : z + 1 + xm.length + xb.length + xo.length ≤ 100000000 := by
        have h3 := hz.out; have h4 := Hcn.out; simp only [cG] at h4; omega
      clear hx hhl hsu hcn O1 hge hth s1 s2 s3 hlen
      go_wp2_with fail
      refine (mark_ints x1 xc1 xm S1 (z + 1) (by omega) (by omega) (by omega) _ H1.out).mono ?_
      rintro e w1 ⟨rfl, k1, t1⟩
      have O2 := HO1.out.turn grpP_firm n Hlen.out ⟨z, x1, xc1, marksInt xm.length (z + 1), x2, xc2, xb, x3, xc3, xo⟩ (by rw [List.getElem_set_self]; simp only [Cel.cs, marksInt_length, mG]) (k1.mono i1) ⟨S1, S2, S3, i1, i2, i3, e1, e2, e3, t1, H2.out.offp k1 (fun y h h' => e1 y h' h), H3.out.offp k1 (fun y h h' => e2 y h' h)⟩
      rw [List.set_set] at O2
      obtain ⟨_, _, c2', c3'⟩ := O2.lst.getGC n (by simp; have := Hhl.out; omega)
      simp only [List.getElem_set_self] at c2' c3'
      have HO2 := hidP O2
      have Hk1 := hidP k1
      have Ht1 := hidP t1
      clear c0 c1 c2 c3 O2 k1 t1
      go_wp2_with fail
      refine (mark_ints x2 xc2 xb S2 _ (by omega) (by omega) (by omega) _ (H2.out.offp Hk1.out (fun y h h' => e1 y h' h))).mono ?_
      rintro e w2 ⟨rfl, k2, t2⟩
      have O3 := HO2.out.turn grpP_firm n (by rw [List.length_set]; have := Hhl.out; omega) ⟨z, x1, xc1, marksInt xm.length (z + 1), x2, xc2, marksInt xb.length (z + 1 + xm.length), x3, xc3, xo⟩ (by rw [List.getElem_set_self]; simp only [Cel.cs, marksInt_length, mG]) (k2.mono i2) ⟨S1, S2, S3, i1, i2, i3, e1, e2, e3, Ht1.out.offp k2 e1, t2, (H3.out.offp Hk1.out (fun y h h' => e2 y h' h)).offp k2 (fun y h h' => e3 y h' h)⟩
      rw [List.set_set] at O3
      obtain ⟨_, _, _, c3⟩ := O3.lst.getGC n (by simp; have := Hhl.out; omega)
      simp only [List.getElem_set_self] at c3
      have HO3 := hidP O3
      have Hk2 := hidP k2
      have Ht2 := hidP t2
      clear c2' c3' O3 k2 t2
      go_wp2_with fail
      refine (mark_ints x3 xc3 xo S3 _ (by omega) (by omega) (by omega) _ ((H3.out.offp Hk1.out (fun y h h' => e2 y h' h)).offp Hk2.out (fun y h h' => e3 y h' h))).mono ?_
      rintro e w3 ⟨rfl, k3, t3⟩
      have O4 := HO3.out.turn grpP_firm n (by rw [List.length_set]; have := Hhl.out; omega) (mG ⟨xg, x1, xc1, xm, x2, xc2, xb, x3, xc3, xo⟩ z) (by rw [List.getElem_set_self]; simp only [Cel.cs, marksInt_length, mG]) (k3.mono i3) ⟨S1, S2, S3, i1, i2, i3, e1, e2, e3, (Ht1.out.offp Hk2.out e1).offp k3 e2, Ht2.out.offp k3 e3, t3⟩
      rw [List.set_set, ← Hsu.out] at O4
      have HO4 := hidP O4
      have Hk3 := hidP k3
      clear O4 k3 t3
      go_wp2
      have hz' := hz.out
      refine ⟨⟨n + 1, z + 1 + (xm.length : Int) + (xb.length : Int) + (xo.length : Int), by go_num, rfl, by omega, by omega, by omega, ?_, ?_, HO4.out⟩, by simp [intOf]; omega⟩
      · show _ = _; rw [Hsn.out, hz']; simp only [cG]; omega
      · exact (((hoff.out.set (.inl rfl) _ _).trans (Hk1.out.mono (fun x hx => .inr ⟨n, i1 x hx⟩))).trans (Hk2.out.mono (fun x hx => .inr ⟨n, i2 x hx⟩))).trans (Hk3.out.mono (fun x hx => .inr ⟨n, i3 x hx⟩))
    · obtain rfl : n = l.length := by omega
      go_wp2
      go_ret
      have e := hz.out
      rw [count_all cG l _ (Nat.le_refl _)] at e
      have hh := hown.out
      rw [half_all mG cG l k _ (Nat.le_refl _)] at hh
      subst e
      exact ⟨rfl, hoff.out, hh⟩


set_option maxRecDepth 100000 in
theorem openGC {H : Type} {enc : TypeId × Value → H} {w : World} {base n : Nat} {spare : Nat → Bool} {held : Bool} {a : Addr} {cs : List Value} {y : DataW H × List MemPlace}
    (h1 : w.cells? base a 4 = some cs) (h2 : DataW.trod enc Tryz.prog w base spare held n 159 cs = some y) :
    ∃ x : GC, (x.right ∧ atG w x) ∧ a.spot = none ∧ a.block < w.heap.size ∧ ∀ j v, (Cel.cs x)[j]? = some v → w.cell? ⟨a.block, a.off + j, none⟩ = some v := by
  obtain ⟨_, hlen, hc⟩ := World.cells?_some h1
  match cs, hlen with
  | [c0, c1, c2, c3], _ =>
    obtain ⟨m, hf⟩ := fields_at Tryz.underlying159 (by kernel_rfl) h2
    obtain ⟨y0, g0⟩ := hf 0 _ rfl _ rfl
    obtain ⟨y1, g1⟩ := hf 1 _ rfl _ rfl
    obtain ⟨y2, g2⟩ := hf 2 _ rfl _ rfl
    obtain ⟨y3, g3⟩ := hf 3 _ rfl _ rfl
    obtain ⟨gen, e0, _, w0⟩ := DataW.trod_int Tryz.underlying3 g0
    simp at e0
    subst e0
    obtain ⟨A, ca, ms, rfl, p1, p2, p3⟩ := openInts g1
    obtain ⟨B, cb, bs, rfl, b1, b2, b3⟩ := openInts g2
    obtain ⟨C, cc, os, rfl, o1, o2, o3⟩ := openInts g3
    have q0 := hc 0 (by omega)
    have hsp : a.spot = none := by
      cases hs : a.spot with
      | none => rfl
      | some s => exfalso; simp [Addr.add, World.cell?, hs] at q0; split at q0 <;> simp at q0
    have hlt : a.block < w.heap.size := by
      rw [show a.add 0 = a from rfl] at q0
      unfold World.cell? at q0
      cases hh : w.heap[a.block]? with
      | none => simp [hh] at q0
      | some ob => exact (Array.getElem?_eq_some_iff.1 hh).1
    refine ⟨⟨gen, A, ca, ms, B, cb, bs, C, cc, os⟩, ⟨⟨i64_of w0, ⟨p1, b1, o1⟩, p2, b2, o2⟩, p3, b3, o3⟩, hsp, hlt, ?_⟩
    intro j v hv
    have hj : j < 4 := (List.getElem?_eq_some_iff.1 hv).1
    have q := hc j hj
    have e : a.add j = ⟨a.block, a.off + j, none⟩ := by
      obtain ⟨b, o, s⟩ := a
      simp only at hsp
      subst hsp
      exact Addr.add_mid b o j
    rw [e] at q
    rw [q]
    exact hv

set_option maxRecDepth 100000 in
theorem openGroupS {H : Type} {enc : TypeId × Value → H} {W : World} {base n : Nat} {spare : Nat → Bool} {held : Bool} {c : Value} {y : DataW H × List MemPlace}
    (g : DataW.trod enc Tryz.prog W base spare held n 29 [c] = some y) :
    ∃ (A : Option Addr) (cap : Nat) (l : List GC), c = .slice A l.length cap ∧ l.length ≤ 9223372036854775807 ∧ (∀ x ∈ l, x.right) ∧ At W A l ∧ EachG W l := by
  rcases open_slice Tryz.underlying29 g with ⟨e2, _⟩ | ⟨a, len, cap, m, n', D, Pl, e2, _, hl, hm, hmm, _, hx⟩
  · simp at e2
    subst e2
    exact ⟨none, 0, [], rfl, by simp, by simp, .inl rfl, by simp [EachG]⟩
  · simp at e2
    subst e2
    have hle : len ≤ m := by rw [hmm]; split <;> omega
    rw [cellsGroup] at hx
    obtain ⟨X, hX⟩ := choose_lt (α := GC) (p := fun i x => (x.right ∧ atG W x) ∧ (a.add (i * 4)).spot = none ∧ (a.add (i * 4)).block < W.heap.size ∧ ∀ j v, (Cel.cs x)[j]? = some v → W.cell? ⟨(a.add (i * 4)).block, (a.add (i * 4)).off + j, none⟩ = some v)
      (n := len) (fun i hi => by obtain ⟨cs', h1, h2⟩ := hx i (by omega); exact openGC h1 h2)
    obtain ⟨l, rfl, hR, hat⟩ := at_of (α := GC) (by decide) (R := fun x => x.right ∧ atG W x) hX
    exact ⟨some a, cap, l, rfl, by simp [maxLen] at hm ⊢; omega, fun x hx => (hR x hx).1, hat, fun x hx => (hR x hx).2⟩
end Go.Proofs.YtclgdghfcjkhfaaGreat.Gen

/-
  Lists of Mark records: how they lie, and what the laws' to, sz, eq, mark and held functions of them do. No condition but that there are at most 1048576.
-/
namespace Go.Proofs.YtclgdghfcjkhfaaGreat.Gen
open Go.ChangeShapes Go.WideShapes Go.ChangeAt Go.RowKit Go.Joins Go.Deep Base
set_option linter.unusedVariables false

structure Mk where
  seq : Int
  off : Int

instance : Inhabited Mk := ⟨⟨0, 0⟩⟩
instance : Cel Mk where
  k := 2
  cs x := [.int .i64 x.seq, .int .i64 x.off]
  len _ := rfl
  one x u hu := by simp at hu; rcases hu with rfl | rfl <;> rfl

def Mk.right (x : Mk) : Prop := I64 x.seq ∧ I64 x.off

theorem In.getMk {w : World} {b o : Nat} {l : List Mk} (h : In w b o l) (i : Nat) (hi : i < l.length) :
    w.cell? ⟨b, o + i * 2, none⟩ = some (.int .i64 l[i].seq) ∧ w.cell? ⟨b, o + i * 2 + 1, none⟩ = some (.int .i64 l[i].off) :=
  ⟨h.cell i hi (f := 0) rfl, h.cell i hi (f := 1) rfl⟩

theorem infoMk : (Tryz.prog.info? 188).map (fun i => (i.zero, i.size, i.bytes)) = some (some (.agg #[.int .i64 0, .int .i64 0]), 2, 16) := by kernel_rfl
theorem cellsMk : Tryz.prog.cellsOf 240 = 2 := by kernel_rfl

theorem szMkS_any (A : Option Addr) (n cap : Nat) (hn : n ≤ 9223372036854775807) (left : Int) (h0 : 0 ≤ left) (h1 : left ≤ 1048576) (w : World) :
    Calls Tryz.prog 147 #[.slice A n cap, .int .i64 left] w fun e w' => e = .returned (.int .i64 (if left < n then -1 else left - n)) ∧ w' = w := by
  by_cases h : left < n
  · have g : left - (n : Int) < 0 := by omega
    rw [if_pos h]
    go_enter Tryz.func147, Tryz.ntmps147
    go_wp2
    go_ret
    exact ⟨rfl, rfl⟩
  · have g : ¬ left - (n : Int) < 0 := by omega
    rw [if_neg h]
    go_enter Tryz.func147, Tryz.ntmps147
    go_wp2
    go_ret
    exact ⟨rfl, rfl⟩

theorem toMk_any (seq off : Int) (w : World) :
    Calls Tryz.prog 175 #[.agg #[.int .i64 seq, .int .i64 off]] w fun e w' => e = .returned (.agg #[.int .i64 seq, .int .i64 off]) ∧ Below w.heap.size w w' := by
  go_enter Tryz.func175, Tryz.ntmps175
  go_wp2
  exact bodyPost_ret (v := .agg #[.int .i64 seq, .int .i64 off]) (by simp [results, Tryz.results175, go_sem]) rfl ⟨rfl, by repeat (first | exact Below.refl _ _ | refine via0 (by assumption) ?_ | refine Below.drew ?_ | refine alloc0 ?_ _)⟩

theorem toMkS_any (A : Option Addr) (cap : Nat) (l : List Mk) (hl : l.length ≤ 1048576) (w : World) (hA : At w A l) :
    Calls Tryz.prog 150 #[.slice A l.length cap] w fun e w' => e = .returned (.slice (some ⟨w.heap.size, 0, none⟩) l.length l.length) ∧ Below w.heap.size w w' ∧ w.heap.size < w'.heap.size ∧ In w' w.heap.size 0 l ∧ w'.there w.heap.size 0 (l.length * 2) := by
  have HA : Hid (At w A l) := hA
  clear hA
  have hmk := make_els (P := Tryz.prog) Tryz.underlying116 infoMk (by omega) l.length hl
  go_enter Tryz.func150, Tryz.ntmps150
  go_wp2
  go_loopw [4] (fun i w' => ∃ (n : Nat), i = .int .i64 (n : Int) ∧ n ≤ l.length ∧ Below w.heap.size w w' ∧ w.heap.size < w'.heap.size ∧ Hid (In w' w.heap.size 0 (l.take n)) ∧ Hid (w'.there w.heap.size 0 (l.length * 2))) (fun i _ => l.length - (intOf i).toNat)
  case atStart => exact ⟨0, rfl, by omega, by repeat (first | exact Below.refl _ _ | refine via0 (by assumption) ?_ | refine Below.drew ?_ | refine alloc0 ?_ _), by simp, In.nil _ _ _, made_there w _ _ _ _⟩
  case round =>
    obtain ⟨n, rfl, hn, hbl, hsz, hin, hth⟩ := hrel
    by_cases hlt : n < l.length
    · obtain ⟨b, o, rfl, hbs, hIn⟩ : ∃ b o, A = some ⟨b, o, none⟩ ∧ b < w.heap.size ∧ In w b o l := by
        rcases HA.out with h | h
        · subst h; simp at hlt
        · exact h
      obtain ⟨c0, c1⟩ := (hIn.below hbs hbl).getMk n hlt
      obtain ⟨⟨v0, d0⟩, f0⟩ := there_at (f := 0) hth.out hlt (by omega)
      obtain ⟨⟨v1, d1⟩, f1⟩ := there_at (f := 1) hth.out hlt (by omega)
      simp only [Nat.zero_add, Nat.add_zero] at d0 f0 d1 f1
      go_wp2_with (go_at_call 175; refine (toMk_any _ _ _).mono ?_; rintro e w1 ⟨rfl, g1⟩; obtain ⟨k1, m1⟩ := bcell g1; have s1 := g1.size)
      have hst := store_el (hin.out.below hsz g1) (there_below hth.out hsz g1) hlt
      refine ⟨⟨n + 1, by go_num, by omega, ?_, by simp; omega, hst.1, hst.2⟩, by simp [intOf]; omega⟩
      exact ((via0 g1 hbl).setCell (Nat.le_refl _) _).setCell (Nat.le_refl _) _
    · have e : l.take n = l := List.take_of_length_le (by omega)
      go_wp2
      go_ret
      exact ⟨rfl, hbl, hsz, by have := hin.out; rwa [e] at this, hth.out⟩

theorem eqMk_same (seq off : Int) (w : World) :
    Calls Tryz.prog 179 #[.agg #[.int .i64 seq, .int .i64 off], .agg #[.int .i64 seq, .int .i64 off]] w fun e w' => e = .returned (.bool true) ∧ Below w.heap.size w w' := by
  go_enter Tryz.func179, Tryz.ntmps179
  go_wp2
  go_ret
  exact ⟨rfl, by repeat (first | exact Below.refl _ _ | refine via0 (by assumption) ?_ | refine Below.drew ?_ | refine alloc0 ?_ _)⟩

theorem eqMkS_same (A A' : Option Addr) (cap cap' : Nat) (l : List Mk) (hl : l.length ≤ 9223372036854775807) (w : World) (hA : At w A l) (hA' : At w A' l) :
    Calls Tryz.prog 158 #[.slice A l.length cap, .slice A' l.length cap'] w fun e w' => e = .returned (.bool true) ∧ Below w.heap.size w w' := by
  have HA : Hid (At w A l) := hA
  have HA' : Hid (At w A' l) := hA'
  clear hA hA'
  go_enter Tryz.func158, Tryz.ntmps158
  go_wp2
  go_loopw [5] (fun i w' => ∃ (n : Nat), i = .int .i64 (n : Int) ∧ n ≤ l.length ∧ Below w.heap.size w w') (fun i _ => l.length - (intOf i).toNat)
  case atStart => exact ⟨0, rfl, by omega, Below.refl _ _⟩
  case round =>
    obtain ⟨n, rfl, hn, hbl⟩ := hrel
    by_cases hlt : n < l.length
    · obtain ⟨b, o, rfl, hbs, hin⟩ : ∃ b o, A = some ⟨b, o, none⟩ ∧ b < w.heap.size ∧ In w b o l := by
        rcases HA.out with h | h
        · subst h; simp at hlt
        · exact h
      obtain ⟨b', o', rfl, hbs', hin'⟩ : ∃ b o, A' = some ⟨b, o, none⟩ ∧ b < w.heap.size ∧ In w b o l := by
        rcases HA'.out with h | h
        · subst h; simp at hlt
        · exact h
      obtain ⟨c0, c1⟩ := (hin.below hbs hbl).getMk n hlt
      obtain ⟨d0, d1⟩ := (hin'.below hbs' hbl).getMk n hlt
      have hb1 : b < wr.heap.size := Nat.lt_of_lt_of_le hbs hbl.size
      have hb2 : b' < wr.heap.size := Nat.lt_of_lt_of_le hbs' hbl.size
      have hi0 : (0 : Int) ≤ (n : Int) := by omega
      have hi1 : (n : Int) < (l.length : Int) := by omega
      go_wp2
      go_region_held3 (fun w' => w'.cell? ⟨b, o + n * 2, none⟩ = some (.int .i64 l[n].seq) ∧ w'.cell? ⟨b, o + n * 2 + 1, none⟩ = some (.int .i64 l[n].off) ∧ w'.cell? ⟨b', o' + n * 2, none⟩ = some (.int .i64 l[n].seq) ∧ w'.cell? ⟨b', o' + n * 2 + 1, none⟩ = some (.int .i64 l[n].off) ∧ wr.heap.size ≤ w'.heap.size)
        (first | (go_split_ands; refine ⟨?_, ?_, ?_, ?_, ?_⟩ <;> first | assumption | exact (k1 _ _ hb1).trans (by assumption) | exact (k1 _ _ hb2).trans (by assumption) | exact s1 | (simp; done)) | go_keep)
        (first
          | (go_at_call 179; refine (eqMk_same _ _ _).mono ?_; rintro e w1 ⟨rfl, g1⟩; obtain ⟨k1, m1⟩ := bcell g1; have s1 := g1.size))
      all_goals
        go_wp2
        exact ⟨⟨n + 1, by go_num, by omega, via0 g1 hbl.drew⟩, by simp [intOf]; omega⟩
    · go_wp2
      go_ret
      exact ⟨rfl, hbl⟩

/-- The record of marks from z on. -/
def markMk (z : Int) : Mk := ⟨z, z + 1⟩
def marksMk (n : Nat) (z : Int) : List Mk := (List.range n).map fun (i : Nat) => markMk (z + (i : Int) * 2)
theorem marksMk_length (n : Nat) (z : Int) : (marksMk n z).length = n := by simp [marksMk]
theorem marksMk_succ (n : Nat) (z : Int) : marksMk (n + 1) z = marksMk n z ++ [markMk (z + (n : Int) * 2)] := by simp [marksMk, List.range_succ]
theorem marksMk_get (n : Nat) (z : Int) (i : Nat) (h : i < (marksMk n z).length) : (marksMk n z)[i] = markMk (z + (i : Int) * 2) := by simp [marksMk]
theorem marksMk_flat (n : Nat) (k z : Int) (hz : z = k + (n : Int) * 2) :
    flat (marksMk n k) ++ [.int .i64 (z)] ++ [.int .i64 (z + 1)] = flat (marksMk (n + 1) k) := by
  subst hz
  rw [marksMk_succ, flat_append, flat_one]
  simp [Cel.cs, markMk, Int.add_assoc]

set_option maxHeartbeats 1000000 in
theorem markMkS_any (b o cap m : Nat) (k : Int) (hk : 1 ≤ k) (hk' : k ≤ 100000000) (hm : m ≤ 2000000) (w : World) (hb : b < w.heap.size) (hth : w.there b o (m * 2)) :
    Calls Tryz.prog 144 #[.slice (some ⟨b, o, none⟩) m cap, .int .i64 k] w fun e w' => e = .returned (.int .i64 (k + (m : Int) * 2)) ∧ Only b w w' ∧ In w' b o (marksMk m k) ∧ w'.there b o (m * 2) := by
  have HT : Hid (w.there b o (m * 2)) := hth
  clear hth
  go_enter Tryz.func144, Tryz.ntmps144
  go_wp2
  go_loopw [1, 5] (fun kk i w' => ∃ (n : Nat) (z : Int), i = .int .i64 (n : Int) ∧ kk = .int .i64 z ∧ n ≤ m ∧ 1 ≤ z ∧ z ≤ 900000000 ∧ Only b w w' ∧ Hid (z = k + (n : Int) * 2) ∧ Hid (In w' b o (marksMk n k)) ∧ Hid (w'.there b o (m * 2))) (fun _ i _ => m - (intOf i).toNat)
  case atStart => exact ⟨0, k, rfl, rfl, by omega, hk, by omega, Only.refl _ _, by simp [Hid], fun j v hv => by simp [marksMk, flat] at hv, HT.out⟩
  case round =>
    obtain ⟨n, z, rfl, rfl, hn, hz1, hz2, ho, hz, hin, hth⟩ := hrel
    by_cases hlt : n < m
    · obtain ⟨⟨v0, d0⟩, f0⟩ := there_at (f := 0) hth.out hlt (by omega)
      obtain ⟨⟨v1, d1⟩, f1⟩ := there_at (f := 1) hth.out hlt (by omega)
      simp only [Nat.add_zero] at d0 f0
      have q1 : b < wr.heap.size := Nat.lt_of_lt_of_le hb ho.size
      go_wp2
      have hlen : (flat (marksMk n k)).length = n * 2 := by rw [flat_length, marksMk_length]; rfl
      have P0 := push (v := .int .i64 (z)) (q := o + n * 2) ⟨hin.out, hth.out, q1⟩ (by simp [hlen]; omega) (by simp [hlen])
      have P1 := push (v := .int .i64 (z + 1)) (q := o + n * 2 + 1) P0 (by simp [hlen]; omega) (by simp [hlen]; omega)
      rw [marksMk_flat n k z hz.out] at P1
      have hz' := hz.out
      refine ⟨⟨n + 1, z + 1 + 1, by go_num, rfl, by omega, by omega, by omega, ?_, by show z + 1 + 1 = _; omega, P1.1, P1.2.1⟩, by simp [intOf]; omega⟩
      exact (ho.set _ _).set _ _
    · obtain rfl : n = m := by omega
      go_wp2
      go_ret
      have e := hz.out
      subst e
      exact ⟨rfl, ho, hin.out, hth.out⟩

theorem markMkS_none (A : Option Addr) (cap : Nat) (k : Int) (w : World) :
    Calls Tryz.prog 144 #[.slice A 0 cap, .int .i64 k] w fun e w' => e = .returned (.int .i64 k) ∧ w' = w := by
  go_enter Tryz.func144, Tryz.ntmps144
  go_wp2
  go_loopw [1, 5] (fun kk i w' => kk = .int .i64 k ∧ i = .int .i64 0 ∧ w' = w) (fun _ _ _ => 0)
  case atStart => exact ⟨rfl, rfl, rfl⟩
  case round =>
    obtain ⟨rfl, rfl, rfl⟩ := hrel
    go_wp2
    go_ret
    exact ⟨rfl, rfl⟩

theorem openMk {H : Type} {enc : TypeId × Value → H} {w : World} {base n : Nat} {spare : Nat → Bool} {held : Bool} {a : Addr} {cs : List Value} {y : DataW H × List MemPlace}
    (h1 : w.cells? base a 2 = some cs) (h2 : DataW.trod enc Tryz.prog w base spare held n 240 cs = some y) :
    ∃ x : Mk, x.right ∧ a.spot = none ∧ a.block < w.heap.size ∧ ∀ j v, (Cel.cs x)[j]? = some v → w.cell? ⟨a.block, a.off + j, none⟩ = some v := by
  obtain ⟨_, hlen, hc⟩ := World.cells?_some h1
  match cs, hlen with
  | [c0, c1], _ =>
    obtain ⟨m, hf⟩ := fields_at Tryz.underlying240 (by kernel_rfl) h2
    obtain ⟨y0, g0⟩ := hf 0 _ rfl _ rfl
    obtain ⟨y1, g1⟩ := hf 1 _ rfl _ rfl
    obtain ⟨seq, e0, _, w0⟩ := DataW.trod_int Tryz.underlying3 g0
    obtain ⟨off, e1, _, w1⟩ := DataW.trod_int Tryz.underlying3 g1
    simp at e0 e1
    subst e0 e1
    have q0 := hc 0 (by omega)
    have hsp : a.spot = none := by
      cases hs : a.spot with
      | none => rfl
      | some s => exfalso; simp [Addr.add, World.cell?, hs] at q0; split at q0 <;> simp at q0
    have hlt : a.block < w.heap.size := by
      rw [show a.add 0 = a from rfl] at q0
      unfold World.cell? at q0
      cases hh : w.heap[a.block]? with
      | none => simp [hh] at q0
      | some ob => exact (Array.getElem?_eq_some_iff.1 hh).1
    refine ⟨⟨seq, off⟩, ⟨i64_of w0, i64_of w1⟩, hsp, hlt, ?_⟩
    intro j v hv
    have hj : j < 2 := (List.getElem?_eq_some_iff.1 hv).1
    have q := hc j hj
    have e : a.add j = ⟨a.block, a.off + j, none⟩ := by
      obtain ⟨b, o, s⟩ := a
      simp only at hsp
      subst hsp
      exact Addr.add_mid b o j
    rw [e] at q
    rw [q]
    exact hv
end Go.Proofs.YtclgdghfcjkhfaaGreat.Gen
