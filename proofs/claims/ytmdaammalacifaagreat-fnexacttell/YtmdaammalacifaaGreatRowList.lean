/-
  Lists of rows, each with its list of items: how they lie, what the laws' to, sz, eq, mark and held functions of them do; the argument opened. No condition but that there are at most 1048576, and the length that every text has.
-/
import Derived.Test.YtmdaammalacifaaGreatRecs
import Derived.Test.YtmdaammalacifaaGreatRowMark
set_option linter.unusedVariables false
set_option linter.unusedSimpArgs false
set_option maxRecDepth 100000
set_option maxHeartbeats 8000000
namespace Go.Proofs.YtmdaammalacifaaGreat.Gen
open ChangeShapes WideShapes ChangeAt RowKit Joins Deep Base
open Items (It)
instance : Cel It where
  k := 5
  cs := It.cs
  len _ := rfl
  one x u hu := by simp [It.cs] at hu; rcases hu with rfl | rfl | rfl | rfl | rfl<;>rfl
structure RC where
  start : Int
  next : Int
  A : Option Addr
  cap : Nat
  its : List It
instance : Inhabited RC := ⟨⟨0, 0, none, 0, []⟩⟩
instance : Cel RC where
  k := 3
  cs x := [.int .i64 x.start, .int .i64 x.next, .slice x.A x.its.length x.cap]
  len _ := rfl
  one x u hu := by simp at hu; rcases hu with rfl | rfl | rfl<;>rfl
structure PR where
  start : Int
  next : Int
  its : List It
def RC.p (x : RC) : PR := ⟨x.start, x.next, x.its⟩
def RC.right (x : RC) : Prop := I64 x.start /\ I64 x.next /\ x.its.length <= 9223372036854775807 /\ ∀ y ∈ x.its, y.right
def EachR (w : World) (l : List RC) : Prop := ∀ x ∈ l, At w x.A x.its
theorem EachR.below {w w' : World} {l : List RC} (h : EachR w l) (hw : Below w.heap.size w w') : EachR w' l := fun x hx => (h x hx).below hw
def rowP (w : World) (x : RC) (S : Nat -> Prop) : Prop := Sub w x.A x.its S
theorem Qao : Firm rowP := fun w w' x S T h k hd => Sub.offp h k hd
theorem rowP_each {S : Nat -> Prop} {w : World} {a : Option Addr} {l : List RC} (h : Own rowP w a l S) : EachR w l := h.each (fun x S hx => Sub.at hx)
theorem In.getRC {w : World} {b o : Nat} {l : List RC} (h : In w b o l) (i : Nat) (hi : i < l.length) :
 w.cell? ⟨b, o + i * 3, none⟩ = some (.int .i64 l[i].start) /\ w.cell? ⟨b, o + i * 3 + 1, none⟩ = some (.int .i64 l[i].next) /\ w.cell? ⟨b, o + i * 3 + 2, none⟩ = some (.slice l[i].A l[i].its.length l[i].cap) :=
 ⟨h.cell i hi (f := 0) rfl, h.cell i hi (f := 1) rfl, h.cell i hi (f := 2) rfl⟩
theorem infoRC : (Tryz.prog.info? 167).map (fun i => (i.zero, i.size, i.bytes)) = some (some (.agg #[.int .i64 0, .int .i64 0, .slice none 0 0]), 3, 40) := by kernel_rfl
def szRC (x : RC) : Nat := x.its.length + Items.tot x.its
theorem szRowS_any (A : Option Addr) (cap : Nat) (l : List RC) (hl : l.length <= 9223372036854775807) (hr : ∀ x ∈ l, x.right) (left : Int) (h0 : 0 <= left) (h1 : left <= 1048576) (w : World) (hA : At w A l) (hE : EachR w l) :
 Calls Tryz.prog 56 #[.slice A l.length cap, .int .i64 left] w fun e w' => (∃ r : Int, e = .returned (.int .i64 r) /\ (r < 0 ∨ (0 <= r /\ r = left - (l.length : Int) - (Qae szRC l : Int)))) /\ Below w.heap.size w w' := by
 have HA := hidP hA
 have Hr := hidP hr
 have HE := hidP hE
 clear hA hr hE
 by_cases h : left < (l.length : Int)
 . have g : left - (l.length : Int) < 0 := by omega
   go_enter Tryz.func56, Tryz.ntmps56
   go_wp2
   go_ret
   exact ⟨⟨-1, rfl, .inl (by omega)⟩, Below.refl _ _⟩
 . have g : ¬ left - (l.length : Int) < 0 := by omega
   go_enter Tryz.func56, Tryz.ntmps56
   go_wp2
   go_loopw [1, 5] (fun q i w' => ∃ (n : Nat) (z : Int), i = .int .i64 (n : Int) /\ q = .int .i64 z /\ n <= l.length /\ 0 <= z /\ z <= 1048576 /\ Hid (z = left - (l.length : Int) - (Qae szRC (l.take n) : Int)) /\ Below w.heap.size w w') (fun _ i _ => l.length - (intOf i).toNat)
   case atStart => exact ⟨0, _, rfl, rfl, by omega, by omega, by omega, by simp [Hid, Qae], Below.refl _ _⟩
   case round =>
    obtain ⟨n, z, rfl, rfl, hn, hz0, hz1, hz, hbl⟩ := hrel
    by_cases hlt : n < l.length
    . obtain ⟨b, o, rfl, hbs, hIn⟩ : ∃ b o, A = some ⟨b, o, none⟩ /\ b < w.heap.size /\ In w b o l := by
       rcases HA.out with h | h
       . subst h; simp at hlt
       . exact h
      obtain ⟨c0, c1, c2⟩ := (hIn.below hbs hbl).getRC n hlt
      have hms := hidP (Hr.out _ (List.getElem_mem hlt))
      have hat := hidP ((HE.out _ (List.getElem_mem hlt)).below hbl)
      have hsn := hidP (Qas szRC l n hlt)
      go_wp2_with fail
      refine (Items.szRow_at _ _ _ _ _ hms.out.2.2.1 (fun x hx => (hms.out.2.2.2 x hx).2.2.2) z hz0 hz1 _ hat.out).mono ?_
      rintro e w1 ⟨r, rfl, hr, g1⟩
      rcases hr with hr | ⟨hr0, hr1⟩
      . go_wp2
        go_ret
        exact ⟨⟨-1, rfl, .inl (by omega)⟩, via0 g1 hbl⟩
      . have hp : ¬ r < 0 := by omega
        have HR1 := hidP hr1
        clear hr1
        go_wp2
        have hz' := hz.out
        have hsn' := hsn.out
        have hr' := HR1.out
        exact ⟨⟨n + 1, r, by go_num, rfl, by omega, by omega, by omega, by show _ = _; rw [hsn', hr', hz']; simp only [szRC]; omega, via0 g1 hbl⟩, by simp [intOf]; omega⟩
    . have e : l.take n = l := List.take_of_length_le (by omega)
      go_wp2
      go_ret
      have hz' := hz.out
      rw [e] at hz'
      exact ⟨⟨z, rfl, .inr ⟨hz0, hz'⟩⟩, hbl⟩
theorem toRowS_any (A : Option Addr) (cap : Nat) (l : List RC) (hl : l.length <= 1048576) (hr : ∀ x ∈ l, x.its.length <= 1048576) (w : World) (hA : At w A l) (hE : EachR w l) :
 Calls Tryz.prog 67 #[.slice A l.length cap] w fun e w' => e = .returned (.slice (some ⟨w.heap.size, 0, none⟩) l.length l.length) /\ Below w.heap.size w w' /\ ∃ l', Grow rowP w' w.heap.size l.length l' /\ l'.map RC.p = l.map RC.p := by
 have HA := hidP hA
 have HE := hidP hE
 have Hr := hidP hr
 clear hA hE hr
 have hmk := Qb2 (P := Tryz.prog) Tryz.underlying48 infoRC (by omega) l.length hl
 go_enter Tryz.func67, Tryz.ntmps67
 go_wp2
 go_loopw [4] (fun i w' => ∃ (n : Nat) (pre : List RC), i = .int .i64 (n : Int) /\ n <= l.length /\ Below w.heap.size w w' /\ w.heap.size < w'.heap.size /\ Hid (pre.length = n) /\ Hid (Grow rowP w' w.heap.size l.length pre) /\ Hid (pre.map RC.p = (l.take n).map RC.p)) (fun i _ => l.length - (intOf i).toNat)
 case atStart => exact ⟨0, [], rfl, by omega, by repeat (first | exact Below.refl _ _ | assumption | refine via0 (by assumption) ?_ | refine Below.drew ?_ | refine Qab ?_ _), by simp, rfl, Grow.start (by simp) (Qa9 w _ _ _ _), by simp [Hid]⟩
 case round =>
  obtain ⟨n, pre, rfl, hn, hbl, hsz, hpl, hgr, hsame⟩ := hrel
  by_cases hlt : n < l.length
  . obtain ⟨b, o, rfl, hbs, hIn⟩ : ∃ b o, A = some ⟨b, o, none⟩ /\ b < w.heap.size /\ In w b o l := by
     rcases HA.out with h | h
     . subst h; simp at hlt
     . exact h
    obtain ⟨c0, c1, c2⟩ := (hIn.below hbs hbl).getRC n hlt
    have hms := Hr.out _ (List.getElem_mem hlt)
    have hat := hidP ((HE.out _ (List.getElem_mem hlt)).below hbl)
    obtain ⟨⟨v0, d0⟩, f0⟩ := Qad (f := 0) hgr.out.th hlt (by decide)
    obtain ⟨⟨v1, d1⟩, f1⟩ := Qad (f := 1) hgr.out.th hlt (by decide)
    obtain ⟨⟨v2, d2⟩, f2⟩ := Qad (f := 2) hgr.out.th hlt (by decide)
    simp only [Nat.zero_add, Nat.add_zero, show Cel.k RC = 3 from rfl] at d0 f0 d1 f1 d2 f2
    go_wp2_with (go_at_call 110; refine (Items.toRow_any _ _ _ _ _ hms _ hat.out).mono ?_; rintro e w1 ⟨bx, rfl, g1, hbx, hbx', hix, htx⟩; obtain ⟨k1, m1⟩ := Qbf g1; have s1 := g1.size; have hix := hidP hix; have htx := hidP htx)
    have hpl' := hpl.out
    have hst := hgr.out.snoc Qao (by omega) g1 (y := (⟨l[n].start, l[n].next, some ⟨bx, 0, none⟩, l[n].its.length, l[n].its⟩ : RC)) (S := fun x => x = bx) (.inr ⟨bx, 0, rfl, rfl, hbx', hix.out, htx.out⟩) (fun x hx => by subst hx; exact ⟨hbx, hbx'⟩)
    rw [hpl'] at hst
    refine ⟨⟨n + 1, _, by go_num, by omega, ?_, by simp; omega, ?_, hst, ?_⟩, by simp [intOf]; omega⟩
    . exact ((((via0 g1 hbl).setCell (Nat.le_refl _) _).setCell (Nat.le_refl _) _).setCell (Nat.le_refl _) _)
    . show _ = _; simp [hpl']
    . show _ = _
      rw [List.map_append, hsame.out, List.take_succ_eq_append_getElem hlt, List.map_append]
      rfl
  . have e : l.take n = l := List.take_of_length_le (by omega)
    go_wp2
    go_ret
    exact ⟨rfl, hbl, pre, hgr.out, by rw [hsame.out, e]⟩
theorem Qhb (A A' : Option Addr) (cap cap' : Nat) (l l' : List RC) (hl : l.length <= 9223372036854775807) (hr : ∀ x ∈ l, x.its.length <= 9223372036854775807) (hsame : l'.map RC.p = l.map RC.p) (w : World) (hA : At w A l) (hE : EachR w l) (hA' : At w A' l') (hE' : EachR w l') :
 Calls Tryz.prog 81 #[.slice A l.length cap, .slice A' l.length cap'] w fun e w' => e = .returned (.bool true) /\ Below w.heap.size w w' := by
 have HA := hidP hA
 have HE := hidP hE
 have HA' := hidP hA'
 have HE' := hidP hE'
 have Hr := hidP hr
 have HS := hidP hsame
 have HLL : Hid (l'.length = l.length) := by have := congrArg List.length hsame; show _ = _; simpa using this
 clear hA hE hA' hE' hr hsame
 go_enter Tryz.func81, Tryz.ntmps81
 go_wp2
 go_loopw [5] (fun i w' => ∃ (n : Nat), i = .int .i64 (n : Int) /\ n <= l.length /\ Below w.heap.size w w') (fun i _ => l.length - (intOf i).toNat)
 case atStart => exact ⟨0, rfl, by omega, Below.refl _ _⟩
 case round =>
  obtain ⟨n, rfl, hn, hbl⟩ := hrel
  by_cases hlt : n < l.length
  . have hll := HLL.out
    obtain ⟨b, o, rfl, hbs, hin⟩ : ∃ b o, A = some ⟨b, o, none⟩ /\ b < w.heap.size /\ In w b o l := by
     rcases HA.out with h | h
     . subst h; simp at hlt
     . exact h
    obtain ⟨b', o', rfl, hbs', hin'⟩ : ∃ b o, A' = some ⟨b, o, none⟩ /\ b < w.heap.size /\ In w b o l' := by
     rcases HA'.out with h | h
     . subst h; simp at hll; omega
     . exact h
    have hp : (l'[n]'(by omega)).p = l[n].p := by
     have h1 : (l'.map RC.p)[n]'(by simp; omega) = (l.map RC.p)[n]'(by simpa using hlt) := by simp only [HS.out]
     simpa using h1
    obtain ⟨c0, c1, c2⟩ := (hin.below hbs hbl).getRC n hlt
    obtain ⟨d0, d1, d2⟩ := (hin'.below hbs' hbl).getRC n (by omega)
    have hat := HE.out _ (List.getElem_mem hlt)
    have hat' := HE'.out _ (List.getElem_mem (show n < l'.length by omega))
    have hms := Hr.out _ (List.getElem_mem hlt)
    generalize l'[n]'(by omega) = y at hp d0 d1 d2 hat'
    generalize l[n] = x at hp c0 c1 c2 hat hms
    obtain ⟨yst, yne, yA, yc, yi⟩ := y
    obtain ⟨st, ne, xA, xc, xi⟩ := x
    simp only [RC.p, PR.mk.injEq] at hp
    obtain ⟨rfl, rfl, rfl⟩ := hp
    simp only at c0 c1 c2 d0 d1 d2 hat hat' hms
    have Hat := hidP (hat.below hbl)
    have Hat' := hidP (hat'.below hbl)
    clear hat hat' hll
    have hb1 : b < wr.heap.size := Nat.lt_of_lt_of_le hbs hbl.size
    have hb2 : b' < wr.heap.size := Nat.lt_of_lt_of_le hbs' hbl.size
    have hi0 : (0 : Int) <= (n : Int) := by omega
    have hi1 : (n : Int) < (l.length : Int) := by omega
    go_wp2
    go_region_held3 (fun w' => w'.cell? ⟨b, o + n * 3, none⟩ = some (.int .i64 yst) /\ w'.cell? ⟨b, o + n * 3 + 1, none⟩ = some (.int .i64 yne) /\ w'.cell? ⟨b, o + n * 3 + 2, none⟩ = some (.slice xA yi.length xc) /\
     w'.cell? ⟨b', o' + n * 3, none⟩ = some (.int .i64 yst) /\ w'.cell? ⟨b', o' + n * 3 + 1, none⟩ = some (.int .i64 yne) /\ w'.cell? ⟨b', o' + n * 3 + 2, none⟩ = some (.slice yA yi.length yc) /\ wr.heap.size <= w'.heap.size)
     (first | (go_split_ands; refine ⟨?_, ?_, ?_, ?_, ?_, ?_, ?_⟩<;>first | assumption | exact (k1 _ _ hb1).trans (by assumption) | exact (k1 _ _ hb2).trans (by assumption) | exact s1 | (simp; done)) | go_keep)
     (first
      | (go_at_call 122; refine (Items.eqRow_same _ _ _ _ _ _ yi hms _ (Hat.out.below (Below.drew (Below.refl _ _))) (Hat'.out.below (Below.drew (Below.refl _ _)))).mono ?_; rintro e w1 ⟨rfl, g1⟩; obtain ⟨k1, m1⟩ := Qbf g1; have s1 := g1.size))
    all_goals
     go_wp2
     exact ⟨⟨n + 1, by go_num, by omega, via0 g1 hbl.drew⟩, by simp [intOf]; omega⟩
  . go_wp2
    go_ret
    exact ⟨rfl, hbl⟩
def cR (x : RC) : Nat := 2 + x.its.length * 5
def mR (x : RC) (z : Int) : RC := ⟨z, z + 1, x.A, x.cap, Items.marks x.its.length (z + 2)⟩
theorem Qea (A : Option Addr) (cap : Nat) (k : Int) (w : World) :
 Calls Tryz.prog 127 #[.slice A 0 cap, .int .i64 k] w fun e w' => e = .returned (.int .i64 k) /\ Below w.heap.size w w' := by
 go_enter Tryz.func127, Tryz.ntmps127
 go_wp2
 go_loopw [1, 5] (fun kk i w' => kk = .int .i64 k /\ i = .int .i64 0 /\ w' = w) (fun _ _ _ => 0)
 case atStart => exact ⟨rfl, rfl, rfl⟩
 case round =>
  obtain ⟨rfl, rfl, rfl⟩ := hrel
  go_wp2
  go_ret
  exact ⟨rfl, Below.refl _ _⟩
theorem mark_items (a : Option Addr) (cap : Nat) (l : List It) (S : Nat -> Prop) (k : Int) (hk : 1 <= k) (hk' : k <= 100000000) (hl : l.length <= 1048576) (w : World) (h : Sub w a l S) :
 Calls Tryz.prog 127 #[.slice a l.length cap, .int .i64 k] w fun e w' => e = .returned (.int .i64 (k + (l.length : Int) * 5)) /\ Offp S w w' /\ Sub w' a (Items.marks l.length k) S := by
 rcases h with rfl | ⟨b, o, rfl, hS, hb, hi, ht⟩
 . refine (Qea a cap k w).mono ?_
   rintro e w' ⟨rfl, g⟩
   exact ⟨by simp, Offp.of_below g, .inl rfl⟩
 . refine (Items.markItemS_any b o cap l.length k hk hk' hl w hb ht).mono ?_
   rintro e w' ⟨rfl, ko, hin, hth⟩
   have ko' : Only b w w' := ⟨ko.os, ko.tape, ko.output, ko.size, ko.block⟩
   exact ⟨rfl, (Offp.of_only ko').mono (fun x e => e ▸ hS), .inr ⟨b, o, rfl, hS, Nat.lt_of_lt_of_le hb ko.size, hin, by rw [Items.marks_length]; exact hth⟩⟩
theorem Qfx (b o cap : Nat) (l : List RC) (fp : Nat -> Nat -> Prop) (k : Int) (hk : 1 <= k) (hk' : k <= 50000000) (hc : Qae cR l <= 50000000) (hl : l.length <= 1048576) (hs : ∀ x ∈ l, x.its.length <= 1048576) (w : World) (hO : OwnF rowP w b o l fp) :
 Calls Tryz.prog 88 #[.slice (some ⟨b, o, none⟩) l.length cap, .int .i64 k] w fun e w' => e = .returned (.int .i64 (k + (Qae cR l : Int))) /\ Offp (fun x => x = b ∨ ∃ i, fp i x) w w' /\ OwnF rowP w' b o (marked mR cR l k) fp := by
 have HO := hidP hO
 have Hs := hidP hs
 have Hc := hidP hc
 clear hO hs hc
 go_enter Tryz.func88, Tryz.ntmps88
 go_wp2
 go_loopw [1, 5] (fun kk i w' => ∃ (n : Nat) (z : Int), i = .int .i64 (n : Int) /\ kk = .int .i64 z /\ n <= l.length /\ 1 <= z /\ z <= 100000000 /\ Hid (z = k + (Qae cR (l.take n) : Int)) /\ Hid (Offp (fun x => x = b ∨ ∃ i, fp i x) w w') /\ Hid (OwnF rowP w' b o (half mR cR l k n) fp)) (fun _ i _ => l.length - (intOf i).toNat)
 case atStart => exact ⟨0, k, rfl, rfl, by omega, hk, by omega, by simp [Hid, Qae], Offp.refl _ _, by rw [Qc8]; exact HO.out⟩
 case round =>
  obtain ⟨n, z, rfl, rfl, hn, hz1, hz2, hz, hoff, hown⟩ := hrel
  by_cases hlt : n < l.length
  . have hhl := Qcm mR cR l k n
    have hge := Qdr mR cR l k n hlt (by omega)
    have hit := Hs.out _ (List.getElem_mem hlt)
    obtain ⟨c0, c1, c2⟩ := hown.out.lst.getRC n (by omega)
    have hth := hown.out.th
    rw [hhl] at hth
    obtain ⟨_, f0⟩ := Qad (f := 0) hth hlt (by decide)
    obtain ⟨_, f1⟩ := Qad (f := 1) hth hlt (by decide)
    simp only [Nat.add_zero, show Cel.k RC = 3 from rfl] at f0 f1
    rw [hge] at c0 c1 c2
    have hsu := Qc9 mR cR l k n hlt
    rw [← hz.out] at hsu
    have hcn : Qae cR (l.take n) + cR l[n] <= 50000000 := by rw [← Qas cR l n hlt]; exact Nat.le_trans (Qcb cR l (n + 1)) Hc.out
    have Hsn := hidP (Qas cR l n hlt)
    generalize hx : l[n] = x at c0 c1 c2 hit hsu hcn hge Hsn
    obtain ⟨st, ne, xA, xc, xi⟩ := x
    simp only at c0 c1 c2 hit
    have O1 := hown.out.set1 Qao n (by omega) ⟨z, ne, xA, xc, xi⟩ 0 (by decide) (.int .i64 z) (by rw [hge]; rfl) (fun W S h => by rw [hge] at h; exact h)
    have O2 := O1.set1 Qao n (by simp; omega) ⟨z, z + 1, xA, xc, xi⟩ 1 (by decide) (.int .i64 (z + 1)) (by rw [List.getElem_set_self]; rfl) (fun W S h => by rw [List.getElem_set_self] at h; exact h)
    simp only [Nat.add_zero, show Cel.k RC = 3 from rfl, List.set_set] at O1 O2
    have Hhl := hidP hhl
    have Hsu := hidP hsu
    have Hcn := hidP hcn
    have HO2 := hidP O2
    have hsub := O2.sub n (by simp; omega)
    rw [List.getElem_set_self] at hsub
    have Hsub := hidP hsub
    have hz' := hz.out
    have hzc : z + 2 <= 100000000 := by
     have h3 := Hcn.out; simp only [cR] at h3; omega
    clear hx hhl hsu hcn O1 O2 hsub hge hth hz'
    go_wp2_with fail
    refine (mark_items xA xc xi (fp n) _ (by omega) (by omega) hit _ Hsub.out).mono ?_
    rintro e w1 ⟨rfl, ko, hsb⟩
    have hlim : xi.length * 5 + 2 <= 50000000 := by have := Hcn.out; simp only [cR] at this; omega
    go_wp2
    have hz' := hz.out
    have hcs : Cel.cs (mR ⟨st, ne, xA, xc, xi⟩ z) = Cel.cs (⟨z, z + 1, xA, xc, xi⟩ : RC) := by
     show [Value.int .i64 z, .int .i64 (z + 1), .slice xA (Items.marks xi.length (z + 2)).length xc] = [.int .i64 z, .int .i64 (z + 1), .slice xA xi.length xc]
     rw [Items.marks_length]
    have hsb' : rowP w1 (mR ⟨st, ne, xA, xc, xi⟩ z) (fp n) := by
     have e : z + 1 + 1 = z + 2 := by omega
     rw [e] at hsb
     exact hsb
    have O3 := HO2.out.turn Qao n (by rw [List.length_set]; have := Hhl.out; omega) (mR ⟨st, ne, xA, xc, xi⟩ z) (by rw [List.getElem_set_self]; exact hcs) ko hsb'
    rw [List.set_set, ← Hsu.out] at O3
    refine ⟨⟨n + 1, z + 1 + 1 + (xi.length : Int) * 5, by go_num, rfl, by omega, by omega, ?_, ?_, ?_, O3⟩, by simp [intOf]; omega⟩
    . have := Hcn.out; simp only [cR] at this; omega
    . show _ = _; rw [Hsn.out, hz']; simp only [cR]; omega
    . exact ((hoff.out.set (.inl rfl) _ _).set (.inl rfl) _ _).trans (ko.mono (fun x hx => .inr ⟨n, hx⟩))
  . obtain rfl : n = l.length := by omega
    go_wp2
    go_ret
    have e := hz.out
    rw [Qb4 cR l _ (Nat.le_refl _)] at e
    have hh := hown.out
    rw [Qds mR cR l k _ (Nat.le_refl _)] at hh
    subst e
    exact ⟨rfl, hoff.out, hh⟩
theorem Qf8 (A : Option Addr) (cap : Nat) (l : List RC) (k : Int) (hk : 1 <= k) (hk' : k <= 50000000) (hc : Qae cR l <= 50000000) (hl : l.length <= 1048576) (hs : ∀ x ∈ l, x.its.length <= 1048576) (w : World) (hA : At w A (marked mR cR l k)) (hE : EachR w (marked mR cR l k)) :
 Calls Tryz.prog 95 #[.slice A l.length cap, .int .i64 k] w fun e w' => e = .returned (.int .i64 (k + (Qae cR l : Int))) /\ Below w.heap.size w w' := by
 have HA := hidP hA
 have HE := hidP hE
 have Hs := hidP hs
 have Hc := hidP hc
 clear hA hE hs hc
 have HML := hidP (Qbd mR cR l k)
 go_enter Tryz.func95, Tryz.ntmps95
 go_wp2
 go_loopw [1, 5] (fun kk i w' => ∃ (n : Nat) (z : Int), i = .int .i64 (n : Int) /\ kk = .int .i64 z /\ n <= l.length /\ 1 <= z /\ z <= 100000000 /\ Hid (z = k + (Qae cR (l.take n) : Int)) /\ Below w.heap.size w w') (fun _ i _ => l.length - (intOf i).toNat)
 case atStart => exact ⟨0, k, rfl, rfl, by omega, hk, by omega, by simp [Hid, Qae], Below.refl _ _⟩
 case round =>
  obtain ⟨n, z, rfl, rfl, hn, hz1, hz2, hz, hbl⟩ := hrel
  by_cases hlt : n < l.length
  . have hml := HML.out
    obtain ⟨b, o, rfl, hbs, hin⟩ : ∃ b o, A = some ⟨b, o, none⟩ /\ b < w.heap.size /\ In w b o (marked mR cR l k) := by
     rcases HA.out with h | h
     . rw [h] at hml; simp at hml; omega
     . exact h
    have hmn : n < (marked mR cR l k).length := by omega
    have hge := Qcw mR cR l n hlt k hmn
    rw [← hz.out] at hge
    obtain ⟨c0, c1, c2⟩ := (hin.below hbs hbl).getRC n hmn
    have hat := (HE.out _ (List.getElem_mem hmn)).below hbl
    rw [hge] at c0 c1 c2 hat
    have hit := Hs.out _ (List.getElem_mem hlt)
    have hcn : Qae cR (l.take n) + cR l[n] <= 50000000 := by rw [← Qas cR l n hlt]; exact Nat.le_trans (Qcb cR l (n + 1)) Hc.out
    have Hsn := hidP (Qas cR l n hlt)
    generalize hx : l[n] = x at c0 c1 c2 hit hcn hat Hsn
    obtain ⟨st, ne, xA, xc, xi⟩ := x
    simp only [mR, Items.marks_length] at c0 c1 c2 hit hat
    have HAt : Hid (xi.length = 0 ∨ ∃ b o, xA = some ⟨b, o, none⟩ /\ b < wr.heap.size /\ Items.In wr b o (Items.marks xi.length (z + 1 + 1))) := by
     have e2 : z + 1 + 1 = z + 2 := by omega
     rw [e2]
     rcases hat with h | h
     . exact .inl (by have := congrArg List.length h; simpa [Items.marks_length] using this)
     . exact .inr h
    have Hcn := hidP hcn
    have hzc : z + 2 <= 100000000 := by
     have h3 := hz.out; have h4 := Hcn.out; simp only [cR] at h4; omega
    have hlim : xi.length * 5 + 2 <= 50000000 := by have := Hcn.out; simp only [cR] at this; omega
    clear hml hge hx hcn hat
    have hneg : ¬ z + 1 + 1 + (xi.length : Int) * 5 < 0 := by omega
    go_wp2_with fail
    refine (Items.heldItemS_any xA xc xi.length (z + 1 + 1) (by omega) (by omega) hit _ HAt.out).mono ?_
    rintro e w1 ⟨rfl, g1⟩
    go_wp2
    have hz' := hz.out
    refine ⟨⟨n + 1, z + 1 + 1 + (xi.length : Int) * 5, by go_num, rfl, by omega, by omega, ?_, ?_, via0 g1 hbl⟩, by simp [intOf]; omega⟩
    . have := Hcn.out; simp only [cR] at this; omega
    . show _ = _; rw [Hsn.out, hz']; simp only [cR]; omega
  . obtain rfl : n = l.length := by omega
    go_wp2
    go_ret
    have e := hz.out
    rw [Qb4 cR l _ (Nat.le_refl _)] at e
    subst e
    exact ⟨rfl, hbl⟩
theorem openRC {H : Type} {enc : TypeId × Value -> H} {w : World} {base n : Nat} {spare : Nat -> Bool} {held : Bool} {a : Addr} {cs : List Value} {y : DataW H × List MemPlace}
 (h1 : w.cells? base a 3 = some cs) (h2 : DataW.trod enc Tryz.prog w base spare held n 152 cs = some y) :
 ∃ x : RC, (x.right /\ At w x.A x.its) /\ a.spot = none /\ a.block < w.heap.size /\ ∀ j v, (Cel.cs x)[j]? = some v -> w.cell? ⟨a.block, a.off + j, none⟩ = some v := by
 obtain ⟨_, hlen, hc⟩ := World.cells?_some h1
 match cs, hlen with
 | [c0, c1, c2], _ =>
  obtain ⟨m, hf⟩ := Qbt Tryz.underlying152 (by kernel_rfl) h2
  obtain ⟨y0, g0⟩ := hf 0 _ rfl _ rfl
  obtain ⟨y1, g1⟩ := hf 1 _ rfl _ rfl
  obtain ⟨y2, g2⟩ := hf 2 _ rfl _ rfl
  obtain ⟨st, e0, _, w0⟩ := DataW.trod_int Tryz.underlying3 g0
  obtain ⟨ne, e1, _, w1⟩ := DataW.trod_int Tryz.underlying3 g1
  simp at e0 e1
  subst e0 e1
  have q0 := hc 0 (by omega)
  have hsp : a.spot = none := by
   cases hs : a.spot with
   | none => rfl
   | some s => exfalso; simp [Addr.add, World.cell?, hs] at q0; split at q0<;>simp at q0
  have hlt : a.block < w.heap.size := by
   rw [show a.add 0 = a from rfl] at q0
   unfold World.cell? at q0
   cases hh : w.heap[a.block]? with
   | none => simp [hh] at q0
   | some ob => exact (Array.getElem?_eq_some_iff.1 hh).1
  obtain ⟨A, cap, l, rfl, hl, hR, hat⟩ : ∃ (A : Option Addr) (cap : Nat) (l : List It), c2 = .slice A l.length cap /\ l.length <= 9223372036854775807 /\ (∀ x ∈ l, x.right) /\ At w A l := by
   rcases open_slice Tryz.underlying150 g2 with ⟨e2, _⟩ | ⟨a, len, cap, m, n', D, Pl, e2, _, hl, hm, hmm, _, hx⟩
   . simp at e2
     subst e2
     exact ⟨none, 0, [], rfl, by simp, by simp, .inl rfl⟩
   . simp at e2
     subst e2
     have hle : len <= m := by rw [hmm]; split<;>omega
     rw [Items.cellsItem] at hx
     obtain ⟨X, hX⟩ := choose_lt (α := It) (p := fun i x => x.right /\ (a.add (i * 5)).spot = none /\ (a.add (i * 5)).block < w.heap.size /\ ∀ j v, (Cel.cs x)[j]? = some v -> w.cell? ⟨(a.add (i * 5)).block, (a.add (i * 5)).off + j, none⟩ = some v)
      (n := len) (fun i hi => by obtain ⟨cs', h1, h2⟩ := hx i (by omega); exact Items.item_of h1 h2)
     obtain ⟨l, rfl, hR, hat⟩ := Qd3 (α := It) (by decide) (R := It.right) hX
     exact ⟨some a, cap, l, rfl, by simp [maxLen] at hm ⊢; omega, hR, hat⟩
  refine ⟨⟨st, ne, A, cap, l⟩, ⟨⟨Qa8 w0, Qa8 w1, hl, hR⟩, hat⟩, hsp, hlt, ?_⟩
  intro j v hv
  have hj : j < 3 := (List.getElem?_eq_some_iff.1 hv).1
  have q := hc j hj
  have e : a.add j = ⟨a.block, a.off + j, none⟩ := by
   obtain ⟨b, o, s⟩ := a
   simp only at hsp
   subst hsp
   exact Addr.add_mid b o j
  rw [e] at q
  rw [q]
  exact hv
theorem openRowS {H : Type} {enc : TypeId × Value -> H} {W : World} {base n : Nat} {spare : Nat -> Bool} {held : Bool} {c : Value} {y : DataW H × List MemPlace}
 (g : DataW.trod enc Tryz.prog W base spare held n 25 [c] = some y) :
 ∃ (A : Option Addr) (cap : Nat) (l : List RC), c = .slice A l.length cap /\ l.length <= 9223372036854775807 /\ (∀ x ∈ l, x.right) /\ At W A l /\ EachR W l := by
 rcases open_slice Tryz.underlying25 g with ⟨e2, _⟩ | ⟨a, len, cap, m, n', D, Pl, e2, _, hl, hm, hmm, _, hx⟩
 . simp at e2
   subst e2
   exact ⟨none, 0, [], rfl, by simp, by simp, .inl rfl, by simp [EachR]⟩
 . simp at e2
   subst e2
   have hle : len <= m := by rw [hmm]; split<;>omega
   rw [Items.cellsRow] at hx
   obtain ⟨X, hX⟩ := choose_lt (α := RC) (p := fun i x => (x.right /\ At W x.A x.its) /\ (a.add (i * 3)).spot = none /\ (a.add (i * 3)).block < W.heap.size /\ ∀ j v, (Cel.cs x)[j]? = some v -> W.cell? ⟨(a.add (i * 3)).block, (a.add (i * 3)).off + j, none⟩ = some v)
    (n := len) (fun i hi => by obtain ⟨cs', h1, h2⟩ := hx i (by omega); exact openRC h1 h2)
   obtain ⟨l, rfl, hR, hat⟩ := Qd3 (α := RC) (by decide) (R := fun x => x.right /\ At W x.A x.its) hX
   exact ⟨some a, cap, l, rfl, by simp [maxLen] at hm ⊢; omega, fun x hx => (hR x hx).1, hat, fun x hx => (hR x hx).2⟩
end Go.Proofs.YtmdaammalacifaaGreat.Gen
