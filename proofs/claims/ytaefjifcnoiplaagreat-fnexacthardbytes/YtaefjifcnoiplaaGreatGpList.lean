/-
  Lists of groups, each with its three lists: how they lie, what the laws' to, sz, eq, mark and held functions of them do; the argument opened. No condition but that there are at most 1048576.
-/
import Derived.Test.YtaefjifcnoiplaaGreatAns
import Derived.Test.YtaefjifcnoiplaaGreatCmdB
import Derived.Deep.RegionHeld3
import Derived.Test.YtaefjifcnoiplaaGreatBase
namespace Go.Proofs.YtaefjifcnoiplaaGreat.Gen
open Go.ChangeShapes Go.WideShapes Go.ChangeAt Go.RowKit Go.Joins Go.Deep Base
set_option linter.unusedVariables false
set_option linter.unusedSimpArgs false
structure GC where
  gen : Int
  a1 : Option Addr
  c1 : Nat
  m : List Int
  a2 : Option Addr
  c2 : Nat
  b : List Int
  a3 : Option Addr
  c3 : Nat
  o : List Int
instance : Inhabited GC := ⟨⟨0, none, 0, [], none, 0, [], none, 0, []⟩⟩
instance : Cel GC where
  k := 4
  cs x := [.int .i64 x.gen, .slice x.a1 x.m.length x.c1, .slice x.a2 x.b.length x.c2, .slice x.a3 x.o.length x.c3]
  len _ := rfl
  one x u hu := by simp at hu; rcases hu with rfl | rfl | rfl | rfl<;>rfl
structure PG where
  gen : Int
  m : List Int
  b : List Int
  o : List Int
def GC.p (x : GC) : PG := ⟨x.gen, x.m, x.b, x.o⟩
def GC.right (x : GC) : Prop := I64 x.gen /\ (x.m.length <= 9223372036854775807 /\ x.b.length <= 9223372036854775807 /\ x.o.length <= 9223372036854775807) /\ (∀ y ∈ x.m, I64 y) /\ (∀ y ∈ x.b, I64 y) /\ ∀ y ∈ x.o, I64 y
def atG (w : World) (x : GC) : Prop := At w x.a1 x.m /\ At w x.a2 x.b /\ At w x.a3 x.o
theorem atG.below {w w' : World} {x : GC} (h : atG w x) (hw : Below w.heap.size w w') : atG w' x := ⟨h.1.below hw, h.2.1.below hw, h.2.2.below hw⟩
def EachG (w : World) (l : List GC) : Prop := ∀ x ∈ l, atG w x
theorem EachG.below {w w' : World} {l : List GC} (h : EachG w l) (hw : Below w.heap.size w w') : EachG w' l := fun x hx => (h x hx).below hw
def grpP (w : World) (x : GC) (S : Nat -> Prop) : Prop :=
  ∃ S1 S2 S3 : Nat -> Prop, (∀ y, S1 y -> S y) /\ (∀ y, S2 y -> S y) /\ (∀ y, S3 y -> S y) /\ (∀ y, S1 y -> ¬ S2 y) /\ (∀ y, S1 y -> ¬ S3 y) /\ (∀ y, S2 y -> ¬ S3 y) /\ Sub w x.a1 x.m S1 /\ Sub w x.a2 x.b S2 /\ Sub w x.a3 x.o S3
theorem grpP_firm : Firm grpP := fun w w' x S T ⟨S1, S2, S3, i1, i2, i3, d1, d2, d3, s1, s2, s3⟩ k hd =>
  ⟨S1, S2, S3, i1, i2, i3, d1, d2, d3, s1.offp k (fun y hy => hd y (i1 y hy)), s2.offp k (fun y hy => hd y (i2 y hy)), s3.offp k (fun y hy => hd y (i3 y hy))⟩
theorem grpP_at {w : World} {x : GC} {S : Nat -> Prop} (h : grpP w x S) : atG w x := by
  obtain ⟨S1, S2, S3, i1, i2, i3, d1, d2, d3, s1, s2, s3⟩ := h
  exact ⟨s1.at, s2.at, s3.at⟩
theorem grpP_each {S : Nat -> Prop} {w : World} {a : Option Addr} {l : List GC} (h : Own grpP w a l S) : EachG w l := h.each (fun x S hx => grpP_at hx)
theorem In.getGC {w : World} {b o : Nat} {l : List GC} (h : In w b o l) (i : Nat) (hi : i < l.length) :
    w.cell? ⟨b, o + i * 4, none⟩ = some (.int .i64 l[i].gen) /\ w.cell? ⟨b, o + i * 4 + 1, none⟩ = some (.slice l[i].a1 l[i].m.length l[i].c1) /\ w.cell? ⟨b, o + i * 4 + 2, none⟩ = some (.slice l[i].a2 l[i].b.length l[i].c2) /\ w.cell? ⟨b, o + i * 4 + 3, none⟩ = some (.slice l[i].a3 l[i].o.length l[i].c3) :=
  ⟨h.cell i hi (f := 0) rfl, h.cell i hi (f := 1) rfl, h.cell i hi (f := 2) rfl, h.cell i hi (f := 3) rfl⟩
theorem infoGC : (Tryz.prog.info? 144).map (fun i => (i.zero, i.size, i.bytes)) = some (some (.agg #[.int .i64 0, .slice none 0 0, .slice none 0 0, .slice none 0 0]), 4, 80) := by kernel_rfl
def szGC (x : GC) : Nat := x.m.length + x.b.length + x.o.length
set_option maxRecDepth 100000 in
set_option maxHeartbeats 1000000 in
theorem szGroupS_any (A : Option Addr) (cap : Nat) (l : List GC) (hl : l.length <= 9223372036854775807) (hr : ∀ x ∈ l, x.right) (left : Int) (h0 : 0 <= left) (h1 : left <= 1048576) (w : World) (hA : At w A l) (hE : EachG w l) :
    Calls Tryz.prog 30 #[.slice A l.length cap, .int .i64 left] w fun e w' => (∃ r : Int, e = .returned (.int .i64 r) /\ (r < 0 ∨ (0 <= r /\ r = left - (l.length : Int) - (count szGC l : Int)))) /\ Below w.heap.size w w' := by
  have HA := hidP hA
  have Hr := hidP hr
  have HE := hidP hE
  clear hA hr hE
  by_cases h : left < (l.length : Int)
  . have g : left - (l.length : Int) < 0 := by omega
    go_enter Tryz.func30, Tryz.ntmps30
    go_wp2
    go_ret
    exact ⟨⟨-1, rfl, .inl (by omega)⟩, Below.refl _ _⟩
  . have g : ¬ left - (l.length : Int) < 0 := by omega
    go_enter Tryz.func30, Tryz.ntmps30
    go_wp2
    go_loopw [1, 5] (fun q i w' => ∃ (n : Nat) (z : Int), i = .int .i64 (n : Int) /\ q = .int .i64 z /\ n <= l.length /\ 0 <= z /\ z <= 1048576 /\ Hid (z = left - (l.length : Int) - (count szGC (l.take n) : Int)) /\ Below w.heap.size w w') (fun _ i _ => l.length - (intOf i).toNat)
    case atStart => exact ⟨0, _, rfl, rfl, by omega, by omega, by omega, by simp [Hid, count], Below.refl _ _⟩
    case round =>
      obtain ⟨n, z, rfl, rfl, hn, hz0, hz1, hz, hbl⟩ := hrel
      by_cases hlt : n < l.length
      . obtain ⟨b, o, rfl, hbs, hIn⟩ : ∃ b o, A = some ⟨b, o, none⟩ /\ b < w.heap.size /\ In w b o l := by
          rcases HA.out with h | h
          . subst h; simp at hlt
          . exact h
        obtain ⟨c0, c1, c2, c3⟩ := (hIn.below hbs hbl).getGC n hlt
        have hms := hidP (Hr.out _ (List.getElem_mem hlt))
        have hsn := hidP (count_snoc szGC l n hlt)
        by_cases hs : z < ((l[n].m.length + l[n].b.length + l[n].o.length : Nat) : Int)
        . go_wp2_with fail
          refine (szGroup_any _ _ _ _ _ _ _ _ _ _ hms.out.2.1.1 hms.out.2.1.2.1 hms.out.2.1.2.2 z hz0 hz1 _).mono ?_
          rw [if_pos hs]
          rintro e w1 ⟨rfl, g1⟩
          go_wp2
          go_ret
          exact ⟨⟨-1, rfl, .inl (by omega)⟩, via0 g1 hbl⟩
        . obtain ⟨r, hr⟩ : ∃ r : Int, r = z - ((l[n].m.length + l[n].b.length + l[n].o.length : Nat) : Int) := ⟨_, rfl⟩
          have hp : ¬ r < 0 := by omega
          have HS := hidP hs
          have HR1 := hidP hr
          clear hr hs
          go_wp2_with fail
          refine (szGroup_any _ _ _ _ _ _ _ _ _ _ hms.out.2.1.1 hms.out.2.1.2.1 hms.out.2.1.2.2 z hz0 hz1 _).mono ?_
          rw [if_neg (by have := HS.out; omega), ← HR1.out]
          rintro e w1 ⟨rfl, g1⟩
          go_wp2
          have hz' := hz.out
          have hsn' := hsn.out
          have hr' := HR1.out
          exact ⟨⟨n + 1, r, by go_num, rfl, by omega, by omega, by omega, by show _ = _; rw [hsn', hr', hz']; simp only [szGC]; omega, via0 g1 hbl⟩, by simp [intOf]; omega⟩
      . have e : l.take n = l := List.take_of_length_le (by omega)
        go_wp2
        go_ret
        have hz' := hz.out
        rw [e] at hz'
        exact ⟨⟨z, rfl, .inr ⟨hz0, hz'⟩⟩, hbl⟩
theorem three_P {n : Nat} {w : World} {x y z : Nat} {m b o : List Int} {gen : Int} {c1 c2 c3 : Nat} (h : Three n w x y z m b o) : grpP w ⟨gen, some ⟨x, 0, none⟩, c1, m, some ⟨y, 0, none⟩, c2, b, some ⟨z, 0, none⟩, c3, o⟩ (fun i => i = x ∨ i = y ∨ i = z) := by
  have h2 := h.xy; have h3 := h.yz; have h4 := h.zs
  exact ⟨fun i => i = x, fun i => i = y, fun i => i = z, fun _ e => .inl e, fun _ e => .inr (.inl e), fun _ e => .inr (.inr e), fun _ e e' => by omega, fun _ e e' => by omega, fun _ e e' => by omega,
    .inr ⟨x, 0, rfl, rfl, by omega, h.im, h.tm⟩, .inr ⟨y, 0, rfl, rfl, by omega, h.ib, h.tb⟩, .inr ⟨z, 0, rfl, rfl, h.zs, h.io, h.to⟩⟩
set_option maxRecDepth 100000 in
set_option maxHeartbeats 1000000 in
theorem toGroupS_any (A : Option Addr) (cap : Nat) (l : List GC) (hl : l.length <= 1048576) (hr : ∀ x ∈ l, x.m.length <= 1048576 /\ x.b.length <= 1048576 /\ x.o.length <= 1048576) (w : World) (hA : At w A l) (hE : EachG w l) :
    Calls Tryz.prog 43 #[.slice A l.length cap] w fun e w' => e = .returned (.slice (some ⟨w.heap.size, 0, none⟩) l.length l.length) /\ Below w.heap.size w w' /\ ∃ l', Grow grpP w' w.heap.size l.length l' /\ l'.map GC.p = l.map GC.p := by
  have HA := hidP hA
  have HE := hidP hE
  have Hr := hidP hr
  clear hA hE hr
  have hmk := make_els (P := Tryz.prog) Tryz.underlying46 infoGC (by omega) l.length hl
  go_enter Tryz.func43, Tryz.ntmps43
  go_wp2
  go_loopw [4] (fun i w' => ∃ (n : Nat) (pre : List GC), i = .int .i64 (n : Int) /\ n <= l.length /\ Below w.heap.size w w' /\ w.heap.size < w'.heap.size /\ Hid (pre.length = n) /\ Hid (Grow grpP w' w.heap.size l.length pre) /\ Hid (pre.map GC.p = (l.take n).map GC.p)) (fun i _ => l.length - (intOf i).toNat)
  case atStart => exact ⟨0, [], rfl, by omega, by repeat (first | exact Below.refl _ _ | assumption | refine via0 (by assumption) ?_ | refine Below.drew ?_ | refine alloc0 ?_ _), by simp, rfl, Grow.start (by simp) (made_there w _ _ _ _), by simp [Hid]⟩
  case round =>
    obtain ⟨n, pre, rfl, hn, hbl, hsz, hpl, hgr, hsame⟩ := hrel
    by_cases hlt : n < l.length
    . obtain ⟨b, o, rfl, hbs, hIn⟩ : ∃ b o, A = some ⟨b, o, none⟩ /\ b < w.heap.size /\ In w b o l := by
        rcases HA.out with h | h
        . subst h; simp at hlt
        . exact h
      obtain ⟨c0, c1, c2, c3⟩ := (hIn.below hbs hbl).getGC n hlt
      have hms := Hr.out _ (List.getElem_mem hlt)
      have hat := hidP ((HE.out _ (List.getElem_mem hlt)).below hbl)
      obtain ⟨⟨v0, d0⟩, f0⟩ := there_at (f := 0) hgr.out.th hlt (by decide)
      obtain ⟨⟨v1, d1⟩, f1⟩ := there_at (f := 1) hgr.out.th hlt (by decide)
      obtain ⟨⟨v2, d2⟩, f2⟩ := there_at (f := 2) hgr.out.th hlt (by decide)
      obtain ⟨⟨v3, d3⟩, f3⟩ := there_at (f := 3) hgr.out.th hlt (by decide)
      simp only [Nat.zero_add, Nat.add_zero, show Cel.k GC = 4 from rfl] at d0 f0 d1 f1 d2 f2 d3 f3
      go_wp2_with (go_at_call 91; refine (toGroup_any _ _ _ _ _ _ _ _ _ _ hms.1 hms.2.1 hms.2.2 _ hat.out.1 hat.out.2.1 hat.out.2.2).mono ?_; rintro e w1 ⟨bx, by1, bz, rfl, g1, h3⟩; obtain ⟨k1, m1⟩ := bcell g1; have s1 := g1.size; have H3 := hidP h3; clear h3)
      have hpl' := hpl.out
      have t3 := H3.out
      have hst := hgr.out.snoc grpP_firm (by omega) g1 (y := (⟨l[n].gen, some ⟨bx, 0, none⟩, l[n].m.length, l[n].m, some ⟨by1, 0, none⟩, l[n].b.length, l[n].b, some ⟨bz, 0, none⟩, l[n].o.length, l[n].o⟩ : GC)) (S := fun x => x = bx ∨ x = by1 ∨ x = bz) (three_P H3.out) (fun x hx => by have h1 := t3.nx; have h2 := t3.xy; have h3 := t3.yz; have h4 := t3.zs; rcases hx with rfl | rfl | rfl<;>exact ⟨by omega, by omega⟩)
      rw [hpl'] at hst
      refine ⟨⟨n + 1, _, by go_num, by omega, ?_, by simp; omega, ?_, hst, ?_⟩, by simp [intOf]; omega⟩
      . exact (((((via0 g1 hbl).setCell (Nat.le_refl _) _).setCell (Nat.le_refl _) _).setCell (Nat.le_refl _) _).setCell (Nat.le_refl _) _)
      . show _ = _; simp [hpl']
      . show _ = _
        rw [List.map_append, hsame.out, List.take_succ_eq_append_getElem hlt, List.map_append]
        rfl
    . have e : l.take n = l := List.take_of_length_le (by omega)
      go_wp2
      go_ret
      exact ⟨rfl, hbl, pre, hgr.out, by rw [hsame.out, e]⟩
set_option maxRecDepth 100000 in
set_option maxHeartbeats 1000000 in
theorem eqGroupS_same (A A' : Option Addr) (cap cap' : Nat) (l l' : List GC) (hl : l.length <= 9223372036854775807) (hr : ∀ x ∈ l, x.m.length <= 9223372036854775807 /\ x.b.length <= 9223372036854775807 /\ x.o.length <= 9223372036854775807) (hsame : l'.map GC.p = l.map GC.p) (w : World) (hA : At w A l) (hE : EachG w l) (hA' : At w A' l') (hE' : EachG w l') :
    Calls Tryz.prog 62 #[.slice A l.length cap, .slice A' l.length cap'] w fun e w' => e = .returned (.bool true) /\ Below w.heap.size w w' := by
  have HA := hidP hA
  have HE := hidP hE
  have HA' := hidP hA'
  have HE' := hidP hE'
  have Hr := hidP hr
  have HS := hidP hsame
  have HLL : Hid (l'.length = l.length) := by have := congrArg List.length hsame; show _ = _; simpa using this
  clear hA hE hA' hE' hr hsame
  go_enter Tryz.func62, Tryz.ntmps62
  go_wp2
  go_loopw [5] (fun i w' => ∃ (n : Nat), i = .int .i64 (n : Int) /\ n <= l.length /\ Below w.heap.size w w') (fun i _ => l.length - (intOf i).toNat)
  case atStart => exact ⟨0, rfl, by omega, Below.refl _ _⟩
  case round =>
    obtain ⟨n, rfl, hn, hbl⟩ := hrel
    by_cases hlt : n < l.length
    . have hll := HLL.out
      obtain ⟨b, o, rfl, hbs, hin⟩ : ∃ b o, A = some ⟨b, o, none⟩ /\ b < w.heap.size /\ In w b o l := by
        rcases HA.out with h | h
        . subst h; simp at hlt
        . exact h
      obtain ⟨b', o', rfl, hbs', hin'⟩ : ∃ b o, A' = some ⟨b, o, none⟩ /\ b < w.heap.size /\ In w b o l' := by
        rcases HA'.out with h | h
        . subst h; simp at hll; omega
        . exact h
      have hp : (l'[n]'(by omega)).p = l[n].p := by
        have h1 : (l'.map GC.p)[n]'(by simp; omega) = (l.map GC.p)[n]'(by simpa using hlt) := by simp only [HS.out]
        simpa using h1
      obtain ⟨c0, c1, c2, c3⟩ := (hin.below hbs hbl).getGC n hlt
      obtain ⟨d0, d1, d2, d3⟩ := (hin'.below hbs' hbl).getGC n (by omega)
      have hat := HE.out _ (List.getElem_mem hlt)
      have hat' := HE'.out _ (List.getElem_mem (show n < l'.length by omega))
      have hms := Hr.out _ (List.getElem_mem hlt)
      generalize l'[n]'(by omega) = y at hp d0 d1 d2 d3 hat'
      generalize l[n] = x at hp c0 c1 c2 c3 hat hms
      obtain ⟨yg, y1, yc1, ym, y2, yc2, yb, y3, yc3, yo⟩ := y
      obtain ⟨xg, x1, xc1, xm, x2, xc2, xb, x3, xc3, xo⟩ := x
      simp only [GC.p, PG.mk.injEq] at hp
      obtain ⟨rfl, rfl, rfl, rfl⟩ := hp
      simp only at c0 c1 c2 c3 d0 d1 d2 d3 hms
      have Hat := hidP (hat.below hbl)
      have Hat' := hidP (hat'.below hbl)
      clear hat hat' hll
      have hb1 : b < wr.heap.size := Nat.lt_of_lt_of_le hbs hbl.size
      have hb2 : b' < wr.heap.size := Nat.lt_of_lt_of_le hbs' hbl.size
      have hi0 : (0 : Int) <= (n : Int) := by omega
      have hi1 : (n : Int) < (l.length : Int) := by omega
      go_wp2
      go_region_held3 (fun w' => w'.cell? ⟨b, o + n * 4, none⟩ = some (.int .i64 yg) /\ w'.cell? ⟨b, o + n * 4 + 1, none⟩ = some (.slice x1 ym.length xc1) /\ w'.cell? ⟨b, o + n * 4 + 2, none⟩ = some (.slice x2 yb.length xc2) /\ w'.cell? ⟨b, o + n * 4 + 3, none⟩ = some (.slice x3 yo.length xc3) /\
          w'.cell? ⟨b', o' + n * 4, none⟩ = some (.int .i64 yg) /\ w'.cell? ⟨b', o' + n * 4 + 1, none⟩ = some (.slice y1 ym.length yc1) /\ w'.cell? ⟨b', o' + n * 4 + 2, none⟩ = some (.slice y2 yb.length yc2) /\ w'.cell? ⟨b', o' + n * 4 + 3, none⟩ = some (.slice y3 yo.length yc3) /\ wr.heap.size <= w'.heap.size)
        (first | (go_split_ands; refine ⟨?_, ?_, ?_, ?_, ?_, ?_, ?_, ?_, ?_⟩<;>first | assumption | exact (k1 _ _ hb1).trans (by assumption) | exact (k1 _ _ hb2).trans (by assumption) | exact s1 | (simp; done)) | go_keep)
        (first
          | (go_at_call 127; refine (eqGroup_same _ _ _ _ _ _ _ _ _ _ _ _ _ ym yb yo hms.1 hms.2.1 hms.2.2 _ (Hat.out.1.below (Below.drew (Below.refl _ _))) (Hat.out.2.1.below (Below.drew (Below.refl _ _))) (Hat.out.2.2.below (Below.drew (Below.refl _ _))) (Hat'.out.1.below (Below.drew (Below.refl _ _))) (Hat'.out.2.1.below (Below.drew (Below.refl _ _))) (Hat'.out.2.2.below (Below.drew (Below.refl _ _)))).mono ?_; rintro e w1 ⟨rfl, g1⟩; obtain ⟨k1, m1⟩ := bcell g1; have s1 := g1.size))
      all_goals
        go_wp2
        exact ⟨⟨n + 1, by go_num, by omega, via0 g1 hbl.drew⟩, by simp [intOf]; omega⟩
    . go_wp2
      go_ret
      exact ⟨rfl, hbl⟩
def cG (x : GC) : Nat := 1 + x.m.length + x.b.length + x.o.length
def mG (x : GC) (z : Int) : GC := ⟨z, x.a1, x.c1, marksInt x.m.length (z + 1), x.a2, x.c2, marksInt x.b.length (z + 1 + x.m.length), x.a3, x.c3, marksInt x.o.length (z + 1 + x.m.length + x.b.length)⟩
theorem mark_ints (a : Option Addr) (cap : Nat) (l : List Int) (S : Nat -> Prop) (k : Int) (hk : 1 <= k) (hk' : k <= 100000000) (hl : l.length <= 2000000) (w : World) (h : Sub w a l S) :
    Calls Tryz.prog 69 #[.slice a l.length cap, .int .i64 k] w fun e w' => e = .returned (.int .i64 (k + (l.length : Int))) /\ Offp S w w' /\ Sub w' a (marksInt l.length k) S := by
  rcases h with rfl | ⟨b, o, rfl, hS, hb, hi, ht⟩
  . refine (markInt_none a cap k w).mono ?_
    rintro e w' ⟨rfl, rfl⟩
    exact ⟨by simp, Offp.refl _ _, .inl rfl⟩
  . refine (markInt_any b o cap l.length k hk hk' hl w hb ht).mono ?_
    rintro e w' ⟨rfl, ko, hin, hth⟩
    exact ⟨rfl, (Offp.of_only ko).mono (fun x e => e ▸ hS), .inr ⟨b, o, rfl, hS, Nat.lt_of_lt_of_le hb ko.size, hin, by rw [marksInt_length]; exact hth⟩⟩
set_option maxRecDepth 100000 in
set_option maxHeartbeats 1000000 in
theorem markGroupS_any (b o cap : Nat) (l : List GC) (fp : Nat -> Nat -> Prop) (k : Int) (hk : 1 <= k) (hk' : k <= 50000000) (hc : count cG l <= 50000000) (hl : l.length <= 1048576) (hs : ∀ x ∈ l, x.m.length <= 1048576 /\ x.b.length <= 1048576 /\ x.o.length <= 1048576) (w : World) (hO : OwnF grpP w b o l fp) :
    Calls Tryz.prog 68 #[.slice (some ⟨b, o, none⟩) l.length cap, .int .i64 k] w fun e w' => e = .returned (.int .i64 (k + (count cG l : Int))) /\ Offp (fun x => x = b ∨ ∃ i, fp i x) w w' /\ OwnF grpP w' b o (marked mG cG l k) fp := by
  have HO := hidP hO
  have Hs := hidP hs
  have Hc := hidP hc
  clear hO hs hc
  go_enter Tryz.func68, Tryz.ntmps68
  go_wp2
  go_loopw [1, 5] (fun kk i w' => ∃ (n : Nat) (z : Int), i = .int .i64 (n : Int) /\ kk = .int .i64 z /\ n <= l.length /\ 1 <= z /\ z <= 100000000 /\ Hid (z = k + (count cG (l.take n) : Int)) /\ Hid (Offp (fun x => x = b ∨ ∃ i, fp i x) w w') /\ Hid (OwnF grpP w' b o (half mG cG l k n) fp)) (fun _ i _ => l.length - (intOf i).toNat)
  case atStart => exact ⟨0, k, rfl, rfl, by omega, hk, by omega, by simp [Hid, count], Offp.refl _ _, by rw [half_zero]; exact HO.out⟩
  case round =>
    obtain ⟨n, z, rfl, rfl, hn, hz1, hz2, hz, hoff, hown⟩ := hrel
    by_cases hlt : n < l.length
    . have hhl := half_length mG cG l k n
      have hge := half_get mG cG l k n hlt (by omega)
      have hit := Hs.out _ (List.getElem_mem hlt)
      obtain ⟨c0, c1, c2, c3⟩ := hown.out.lst.getGC n (by omega)
      have hth := hown.out.th
      rw [hhl] at hth
      obtain ⟨_, f0⟩ := there_at (f := 0) hth hlt (by decide)
      simp only [Nat.add_zero, show Cel.k GC = 4 from rfl] at f0
      rw [hge] at c0 c1 c2 c3
      have hsu := half_succ mG cG l k n hlt
      rw [← hz.out] at hsu
      have hcn : count cG (l.take n) + cG l[n] <= 50000000 := by rw [← count_snoc cG l n hlt]; exact Nat.le_trans (count_le cG l (n + 1)) Hc.out
      have Hsn := hidP (count_snoc cG l n hlt)
      generalize hx : l[n] = x at c0 c1 c2 c3 hit hsu hcn hge Hsn
      obtain ⟨xg, x1, xc1, xm, x2, xc2, xb, x3, xc3, xo⟩ := x
      simp only at c0 c1 c2 c3 hit
      have O1 := hown.out.set1 grpP_firm n (by omega) ⟨z, x1, xc1, xm, x2, xc2, xb, x3, xc3, xo⟩ 0 (by decide) (.int .i64 z) (by rw [hge]; rfl) (fun W S h => by rw [hge] at h; exact h)
      simp only [Nat.add_zero, show Cel.k GC = 4 from rfl] at O1
      have Hhl := hidP hhl
      have Hsu := hidP hsu
      have Hcn := hidP hcn
      have HO1 := hidP O1
      have hsub := O1.sub n (by simp; omega)
      rw [List.getElem_set_self] at hsub
      obtain ⟨S1, S2, S3, i1, i2, i3, e1, e2, e3, s1, s2, s3⟩ := hsub
      have hlen : n < ((half mG cG l k n).set n ⟨z, x1, xc1, xm, x2, xc2, xb, x3, xc3, xo⟩).length := by rw [List.length_set]; omega
      have Hlen := hidP hlen
      have H1 := hidP s1
      have H2 := hidP s2
      have H3 := hidP s3
      have hzc : z + 1 + xm.length + xb.length + xo.length <= 100000000 := by
        have h3 := hz.out; have h4 := Hcn.out; simp only [cG] at h4; omega
      clear hx hhl hsu hcn O1 hge hth s1 s2 s3 hlen
      go_wp2_with fail
      refine (mark_ints x1 xc1 xm S1 (z + 1) (by omega) (by omega) (by omega) _ H1.out).mono ?_
      rintro e w1 ⟨rfl, k1, t1⟩
      have O2 := HO1.out.turn grpP_firm n Hlen.out ⟨z, x1, xc1, marksInt xm.length (z + 1), x2, xc2, xb, x3, xc3, xo⟩ (by rw [List.getElem_set_self]; simp only [Cel.cs, marksInt_length, mG]) (k1.mono i1) ⟨S1, S2, S3, i1, i2, i3, e1, e2, e3, t1, H2.out.offp k1 (fun y h h' => e1 y h' h), H3.out.offp k1 (fun y h h' => e2 y h' h)⟩
      rw [List.set_set] at O2
      obtain ⟨_, _, c2', c3'⟩ := O2.lst.getGC n (by simp; have := Hhl.out; omega)
      simp only [List.getElem_set_self] at c2' c3'
      have HO2 := hidP O2
      have Hk1 := hidP k1
      have Ht1 := hidP t1
      clear c0 c1 c2 c3 O2 k1 t1
      go_wp2_with fail
      refine (mark_ints x2 xc2 xb S2 _ (by omega) (by omega) (by omega) _ (H2.out.offp Hk1.out (fun y h h' => e1 y h' h))).mono ?_
      rintro e w2 ⟨rfl, k2, t2⟩
      have O3 := HO2.out.turn grpP_firm n (by rw [List.length_set]; have := Hhl.out; omega) ⟨z, x1, xc1, marksInt xm.length (z + 1), x2, xc2, marksInt xb.length (z + 1 + xm.length), x3, xc3, xo⟩ (by rw [List.getElem_set_self]; simp only [Cel.cs, marksInt_length, mG]) (k2.mono i2) ⟨S1, S2, S3, i1, i2, i3, e1, e2, e3, Ht1.out.offp k2 e1, t2, (H3.out.offp Hk1.out (fun y h h' => e2 y h' h)).offp k2 (fun y h h' => e3 y h' h)⟩
      rw [List.set_set] at O3
      obtain ⟨_, _, _, c3⟩ := O3.lst.getGC n (by simp; have := Hhl.out; omega)
      simp only [List.getElem_set_self] at c3
      have HO3 := hidP O3
      have Hk2 := hidP k2
      have Ht2 := hidP t2
      clear c2' c3' O3 k2 t2
      go_wp2_with fail
      refine (mark_ints x3 xc3 xo S3 _ (by omega) (by omega) (by omega) _ ((H3.out.offp Hk1.out (fun y h h' => e2 y h' h)).offp Hk2.out (fun y h h' => e3 y h' h))).mono ?_
      rintro e w3 ⟨rfl, k3, t3⟩
      have O4 := HO3.out.turn grpP_firm n (by rw [List.length_set]; have := Hhl.out; omega) (mG ⟨xg, x1, xc1, xm, x2, xc2, xb, x3, xc3, xo⟩ z) (by rw [List.getElem_set_self]; simp only [Cel.cs, marksInt_length, mG]) (k3.mono i3) ⟨S1, S2, S3, i1, i2, i3, e1, e2, e3, (Ht1.out.offp Hk2.out e1).offp k3 e2, Ht2.out.offp k3 e3, t3⟩
      rw [List.set_set, ← Hsu.out] at O4
      have HO4 := hidP O4
      have Hk3 := hidP k3
      clear O4 k3 t3
      go_wp2
      have hz' := hz.out
      refine ⟨⟨n + 1, z + 1 + (xm.length : Int) + (xb.length : Int) + (xo.length : Int), by go_num, rfl, by omega, by omega, by omega, ?_, ?_, HO4.out⟩, by simp [intOf]; omega⟩
      . show _ = _; rw [Hsn.out, hz']; simp only [cG]; omega
      . exact (((hoff.out.set (.inl rfl) _ _).trans (Hk1.out.mono (fun x hx => .inr ⟨n, i1 x hx⟩))).trans (Hk2.out.mono (fun x hx => .inr ⟨n, i2 x hx⟩))).trans (Hk3.out.mono (fun x hx => .inr ⟨n, i3 x hx⟩))
    . obtain rfl : n = l.length := by omega
      go_wp2
      go_ret
      have e := hz.out
      rw [count_all cG l _ (Nat.le_refl _)] at e
      have hh := hown.out
      rw [half_all mG cG l k _ (Nat.le_refl _)] at hh
      subst e
      exact ⟨rfl, hoff.out, hh⟩
set_option maxRecDepth 100000 in
theorem openGC {H : Type} {enc : TypeId × Value -> H} {w : World} {base n : Nat} {spare : Nat -> Bool} {held : Bool} {a : Addr} {cs : List Value} {y : DataW H × List MemPlace}
    (h1 : w.cells? base a 4 = some cs) (h2 : DataW.trod enc Tryz.prog w base spare held n 132 cs = some y) :
    ∃ x : GC, (x.right /\ atG w x) /\ a.spot = none /\ a.block < w.heap.size /\ ∀ j v, (Cel.cs x)[j]? = some v -> w.cell? ⟨a.block, a.off + j, none⟩ = some v := by
  obtain ⟨_, hlen, hc⟩ := World.cells?_some h1
  match cs, hlen with
  | [c0, c1, c2, c3], _ =>
    obtain ⟨m, hf⟩ := fields_at Tryz.underlying132 (by kernel_rfl) h2
    obtain ⟨y0, g0⟩ := hf 0 _ rfl _ rfl
    obtain ⟨y1, g1⟩ := hf 1 _ rfl _ rfl
    obtain ⟨y2, g2⟩ := hf 2 _ rfl _ rfl
    obtain ⟨y3, g3⟩ := hf 3 _ rfl _ rfl
    obtain ⟨gen, e0, _, w0⟩ := DataW.trod_int Tryz.underlying3 g0
    simp at e0
    subst e0
    obtain ⟨A, ca, ms, rfl, p1, p2, p3⟩ := openInts g1
    obtain ⟨B, cb, bs, rfl, b1, b2, b3⟩ := openInts g2
    obtain ⟨C, cc, os, rfl, o1, o2, o3⟩ := openInts g3
    have q0 := hc 0 (by omega)
    have hsp : a.spot = none := by
      cases hs : a.spot with
      | none => rfl
      | some s => exfalso; simp [Addr.add, World.cell?, hs] at q0; split at q0<;>simp at q0
    have hlt : a.block < w.heap.size := by
      rw [show a.add 0 = a from rfl] at q0
      unfold World.cell? at q0
      cases hh : w.heap[a.block]? with
      | none => simp [hh] at q0
      | some ob => exact (Array.getElem?_eq_some_iff.1 hh).1
    refine ⟨⟨gen, A, ca, ms, B, cb, bs, C, cc, os⟩, ⟨⟨i64_of w0, ⟨p1, b1, o1⟩, p2, b2, o2⟩, p3, b3, o3⟩, hsp, hlt, ?_⟩
    intro j v hv
    have hj : j < 4 := (List.getElem?_eq_some_iff.1 hv).1
    have q := hc j hj
    have e : a.add j = ⟨a.block, a.off + j, none⟩ := by
      obtain ⟨b, o, s⟩ := a
      simp only at hsp
      subst hsp
      exact Addr.add_mid b o j
    rw [e] at q
    rw [q]
    exact hv
set_option maxRecDepth 100000 in
theorem openGroupS {H : Type} {enc : TypeId × Value -> H} {W : World} {base n : Nat} {spare : Nat -> Bool} {held : Bool} {c : Value} {y : DataW H × List MemPlace}
    (g : DataW.trod enc Tryz.prog W base spare held n 29 [c] = some y) :
    ∃ (A : Option Addr) (cap : Nat) (l : List GC), c = .slice A l.length cap /\ l.length <= 9223372036854775807 /\ (∀ x ∈ l, x.right) /\ At W A l /\ EachG W l := by
  rcases open_slice Tryz.underlying29 g with ⟨e2, _⟩ | ⟨a, len, cap, m, n', D, Pl, e2, _, hl, hm, hmm, _, hx⟩
  . simp at e2
    subst e2
    exact ⟨none, 0, [], rfl, by simp, by simp, .inl rfl, by simp [EachG]⟩
  . simp at e2
    subst e2
    have hle : len <= m := by rw [hmm]; split<;>omega
    rw [cellsGroup] at hx
    obtain ⟨X, hX⟩ := choose_lt (α := GC) (p := fun i x => (x.right /\ atG W x) /\ (a.add (i * 4)).spot = none /\ (a.add (i * 4)).block < W.heap.size /\ ∀ j v, (Cel.cs x)[j]? = some v -> W.cell? ⟨(a.add (i * 4)).block, (a.add (i * 4)).off + j, none⟩ = some v)
      (n := len) (fun i hi => by obtain ⟨cs', h1, h2⟩ := hx i (by omega); exact openGC h1 h2)
    obtain ⟨l, rfl, hR, hat⟩ := at_of (α := GC) (by decide) (R := fun x => x.right /\ atG W x) hX
    exact ⟨some a, cap, l, rfl, by simp [maxLen] at hm ⊢; omega, fun x hx => (hR x hx).1, hat, fun x hx => (hR x hx).2⟩
end Go.Proofs.YtaefjifcnoiplaaGreat.Gen

/-
  A region that draws its order, and whose last operation (a store, as a rule) waits for all others: what its loads read need hold up to that operation alone, so that it may write the very cells that they read. No condition.
-/
namespace Go.Proofs.YtaefjifcnoiplaaGreat.Gen
set_option linter.unusedVariables false
section
variable {P : Program} {ops : Array Oper} {Q : Exit -> Act -> World -> Prop} {md : Region.Mode} {S : World -> Prop} {z : Nat}
def waitsForAll (md : Region.Mode) (ops : Array Oper) (z : Nat) : Bool :=
  match ops[z]? with
  | none => false
  | some o => (List.range ops.size).all fun j => j == z || o.after.any fun e => Region.binds md e && e.on == j
theorem not_last {i : Nat} {L : Array Bool} (hz : waitsForAll md ops z = true) (hi : i ∈ Region.ready md ops L) (hne : i ≠ z) : z ∉ Region.ready md ops L := fun h => by
  obtain ⟨hu, oi, hoi, _⟩ := mem_ready.1 hi
  obtain ⟨_, oz, hoz, hall⟩ := mem_ready.1 h
  have hlt : i < ops.size := (Array.getElem?_eq_some_iff.1 hoi).1
  simp only [waitsForAll, hoz, List.all_eq_true, List.mem_range, Bool.or_eq_true, beq_iff_eq] at hz
  have h1 := (hz i hlt).resolve_left hne
  obtain ⟨e, he, hb⟩ := Array.any_eq_true'.1 h1
  simp only [Bool.and_eq_true, beq_iff_eq] at hb
  have h2 := hall e he hb.1
  rw [hb.2] at h2
  rcases Nat.lt_or_ge i L.size with h' | h'
  . simp [h'] at hu h2
    rw [hu] at h2; cases h2
  . simp [Array.getElem?_eq_none h'] at h2
def anyUpTo (P : Program) (md : Region.Mode) (ops : Array Oper) (Q : Exit -> Act -> World -> Prop) (S : World -> Prop) (z : Nat) : Nat -> Array Bool -> Act -> World -> Prop
  | 0, L, a, w => Region.ready md ops L = [] /\ Q .normal a w
  | n + 1, L, a, w => (Region.ready md ops L = [] -> Q .normal a w) /\
    ∀ i ∈ Region.ready md ops L, wpOp P ops Q i (fun a' w' => (i = z ∨ S w') /\ anyUpTo P md ops Q S z n (L.setIfInBounds i true) a' w') a w
theorem upTo_take {i : Nat} {oi : Oper} {v : Value} (hz : waitsForAll md ops z = true) (hi : ops[i]? = some oi) (hs : Region.noSelect ops = true) (hQ : ∀ c a w, Q (.panic c) (a.put oi.dst v) w -> Q (.panic c) a w) (hiz : i ≠ z) (n : Nat) :
    ∀ (L : Array Bool) (a : Act) (w : World), Region.free md ops L i = true -> i ∈ Region.ready md ops L -> YieldsIf P ops S oi v a -> S w ->
      anyUpTo P md ops Q S z n (L.setIfInBounds i true) (a.put oi.dst v) w -> anyUpTo P md ops Q S z (n + 1) L a w := by
  have sel : ∀ (j : Nat) (o : Oper) cs b, ops[j]? = some o -> o.op ≠ .select cs b := Region.noSelect_spec hs
  suffices key : ∀ (L : Array Bool) (a : Act) (w : World), (∀ j oj, ops[j]? = some oj -> j ≠ i -> L.getD j true = false -> (∀ e ∈ oj.after, Region.binds md e = true -> e.on ≠ i) -> oi.apart ops oj = true) ->
      i ∈ Region.ready md ops L -> YieldsIf P ops S oi v a -> S w -> anyUpTo P md ops Q S z n (L.setIfInBounds i true) (a.put oi.dst v) w -> anyUpTo P md ops Q S z (n + 1) L a w from
    fun L a w hf hr hy hS H => key L a w (Region.free_spec hi hf) hr hy hS H
  induction n with
  | zero =>
    intro L a w _ hr hy hS H
    constructor
    . intro h; rw [h] at hr; exact absurd hr (List.not_mem_nil)
    . intro j hj
      rcases Decidable.em (j = i) with e | e
      . subst e; exact hy.wpOp hi hS ⟨.inr hS, H⟩
      . have g := ready_mono hj e
        rw [H.1] at g
        exact absurd g (List.not_mem_nil)
  | succ n ih =>
    intro L a w hfr hr hy hS H
    constructor
    . intro h; rw [h] at hr; exact absurd hr (List.not_mem_nil)
    . intro j hj
      rcases Decidable.em (j = i) with e | e
      . subst e; exact hy.wpOp hi hS ⟨.inr hS, H⟩
      . obtain ⟨hun, oj, hoj, hwait⟩ := mem_ready.1 hj
        have hjz : j ≠ z := fun h => by subst h; exact not_last hz hr hiz hj
        have iun := (mem_ready.1 hr).1
        have hno : ∀ d ∈ oj.after, Region.binds md d = true -> d.on ≠ i := fun d hd hb q => by
          have g := hwait d hd hb
          rw [q] at g
          rcases Nat.lt_or_ge i L.size with k | k
          . simp [k] at iun g
            rw [iun] at g; cases g
          . simp [Array.getElem?_eq_none k] at g
        have step := wpOp_putIf hoj (hfr j oj hoj e hun hno) (fun cs b => sel i oi cs b hi) (fun cs b => sel j oj cs b hoj) hQ hy (H.2 j (ready_mono hj e))
        refine wpOp_mono (fun a' w' g => ?_) step
        have hS' : S w' := g.2.1.resolve_left hjz
        refine ⟨.inr hS', ih _ a' w' (fun k ok hk hki hu hn => ?_) (ready_mono hr (Ne.symm e)) g.1 hS' ?_⟩
        . refine hfr k ok hk hki ?_ hn
          rcases Decidable.em (j = k) with q | q
          . subst q; exact hun
          . rwa [getD_set_ne true q] at hu
        . have := g.2.2
          rwa [Array.setIfInBounds_comm _ _ (Ne.symm e)] at this
theorem upTo_taken {i : Nat} {oi : Oper} {v : Value} {n : Nat} {L : Array Bool} {a : Act} {w : World} (hz : waitsForAll md ops z = true) (hi : ops[i]? = some oi) (hs : Region.noSelect ops = true) (hiz : i ≠ z)
    (hf : Region.free md ops L i = true) (hr : (Region.ready md ops L).contains i = true) (hQ : ∀ c a w, Q (.panic c) (a.put oi.dst v) w -> Q (.panic c) a w) (hy : YieldsIf P ops S oi v a) (hS : S w)
    (h : anyUpTo P md ops Q S z n (L.setIfInBounds i true) (a.put oi.dst v) w) : anyUpTo P md ops Q S z (n + 1) L a w :=
  upTo_take hz hi hs hQ hiz n L a w hf (by simpa using hr) hy hS h
end
end Go.Proofs.YtaefjifcnoiplaaGreat.Gen

/-
  Short names for the steps of a region that draws its order: no condition.
-/
namespace Go.Proofs.YtaefjifcnoiplaaGreat
open Gen
set_option linter.unusedVariables false
theorem zG {α : Type} : (∀ (l : List α) (i : Nat) (h : i < l.toArray.size), l.toArray[i] = l[i]'(by simpa using h)) /\ (∀ (a : α) (l : List α) (i : Nat) (h : i + 1 < (a :: l).length), (a :: l)[i + 1] = l[i]'(by simpa using h)) /\ (∀ (a : α) (l : List α) (h : 0 < (a :: l).length), (a :: l)[0] = a) := ⟨fun _ _ _ => rfl, fun _ _ _ _ => rfl, fun _ _ _ => rfl⟩
theorem zY {α : Type} : (∀ (l : List α) (i : Nat) (h : i < l.toArray.size), l.toArray[i] = l[i]'(by simpa using h)) /\ (∀ (a : α) (l : List α) (i : Nat) (h : i + 1 < (a :: l).length), (a :: l)[i + 1] = l[i]'(by simpa using h)) /\ (∀ (a : α) (l : List α) (h : 0 < (a :: l).length), (a :: l)[0] = a) /\ (∀ (l : List α) (i : Nat) (v : α), l.toArray.setIfInBounds i v = (l.set i v).toArray) /\ (∀ (a v : α) (l : List α), (a :: l).set 0 v = v :: l) /\ (∀ (a v : α) (l : List α) (i : Nat), (a :: l).set (i + 1) v = a :: l.set i v) := ⟨fun _ _ _ => rfl, fun _ _ _ _ => rfl, fun _ _ _ => rfl, fun _ _ _ => by simp, fun _ _ _ => rfl, fun _ _ _ _ => rfl⟩
theorem zX : (∀ (a : Act) (v : Value), a.put none v = a) /\ (∀ (a : Act) (t : Tmp) (v : Value), a.put (some t) v = { a with tmps := a.tmps.setIfInBounds t v }) := ⟨fun _ _ => rfl, fun _ _ _ => rfl⟩
section
variable {P : Program} {md : Region.Mode} {ops : Array Oper} {Q : Go.Exit -> Act -> World -> Prop} {S : World -> Prop} {fuel : Nat} {listed : Array Bool} {a : Act} {w : World}
def ZTk (_ : List Nat) (P : Program) (md : Region.Mode) (ops : Array Oper) (Q : Go.Exit -> Act -> World -> Prop) (S : World -> Prop) (fuel : Nat) (listed : Array Bool) (a : Act) (w : World) : Prop := wpAnyH P md ops Q S fuel listed a w
theorem ztk (is : List Nat) (h : ZTk is P md ops Q S fuel listed a w) : wpAnyH P md ops Q S fuel listed a w := h
theorem zt1 (i : Nat) (h : ZTk [i] P md ops Q S fuel listed a w) : wpAnyH P md ops Q S fuel listed a w := h
theorem zte (h : wpAnyH P md ops Q S fuel listed a w) : ZTk [] P md ops Q S fuel listed a w := h
theorem ztn {i : Nat} {is : List Nat} {oi : Oper} {v : Value} (hi : ops[i]? = some oi := by rfl) (hw : Region.wanted oi (yielded ops a.tmps) = true := by rfl) (hy : ∀ w, S w -> (execOp a.eval oi).run P w = .ok (.value v) w := by (intro w hSw; (try dsimp only at hSw); go_simp<;>with_reducible rfl)) (hS : S w := by assumption) (hs : Region.noSelect ops = true := by kernel_rfl) (hf : Region.free md ops listed i = true := by kernel_rfl) (hr : (Region.ready md ops listed).contains i = true := by kernel_rfl)
    (hQ : ∀ c a w, Q (.panic c) (a.put oi.dst v) w -> Q (.panic c) a w := by exact fun _ _ _ h => h) (h : ZTk is P md ops Q S fuel (listed.setIfInBounds i true) (a.put oi.dst v) w) : ZTk (i :: is) P md ops Q S (fuel + 1) listed a w := wpAnyH_take hi hs hf hr hQ (.inl ⟨hw, hy⟩) hS h
theorem ztu {i : Nat} {is : List Nat} {oi : Oper} (hi : ops[i]? = some oi := by rfl) (hw : Region.wanted oi (yielded ops a.tmps) = false := by rfl) (hS : S w := by assumption) (hs : Region.noSelect ops = true := by kernel_rfl) (hf : Region.free md ops listed i = true := by kernel_rfl) (hr : (Region.ready md ops listed).contains i = true := by kernel_rfl)
    (hQ : ∀ c a w, Q (.panic c) (a.put oi.dst undef) w -> Q (.panic c) a w := by exact fun _ _ _ h => h) (h : ZTk is P md ops Q S fuel (listed.setIfInBounds i true) (a.put oi.dst undef) w) : ZTk (i :: is) P md ops Q S (fuel + 1) listed a w := wpAnyH_take hi hs hf hr hQ (.inr ⟨hw, rfl⟩) hS h
theorem zR1 (i : Nat) {o : Oper} (h : ∀ K' : Act -> World -> Prop, Shut (∀ a w, S w -> (S w -> wpAnyH P md ops Q S fuel (listed.setIfInBounds i true) a w) -> K' a w) -> if Region.wanted o (yielded ops a.tmps) = true then Oper.wp P o a w K' Q else K' (a.put o.dst undef) w) (ho : ops[i]? = some o := by rfl) (hr : Region.ready md ops listed = [i] := by kernel_rfl) : wpAnyH P md ops Q S (fuel + 1) listed a w := wpAnyH_ready hr (by simp) (.cons ho h .nil)
theorem zR2 (i j : Nat) {o o2 : Oper} (h : ∀ K' : Act -> World -> Prop, Shut (∀ a w, S w -> (S w -> wpAnyH P md ops Q S fuel (listed.setIfInBounds i true) a w) -> K' a w) -> if Region.wanted o (yielded ops a.tmps) = true then Oper.wp P o a w K' Q else K' (a.put o.dst undef) w) (h2 : ∀ K' : Act -> World -> Prop, Shut (∀ a w, S w -> (S w -> wpAnyH P md ops Q S fuel (listed.setIfInBounds j true) a w) -> K' a w) -> if Region.wanted o2 (yielded ops a.tmps) = true then Oper.wp P o2 a w K' Q else K' (a.put o2.dst undef) w)
    (ho : ops[i]? = some o := by rfl) (ho2 : ops[j]? = some o2 := by rfl) (hr : Region.ready md ops listed = [i, j] := by kernel_rfl) : wpAnyH P md ops Q S (fuel + 1) listed a w := wpAnyH_ready hr (by simp) (.cons ho h (.cons ho2 h2 .nil))
theorem zR3 (i j k : Nat) {o o2 o3 : Oper} (h : ∀ K' : Act -> World -> Prop, Shut (∀ a w, S w -> (S w -> wpAnyH P md ops Q S fuel (listed.setIfInBounds i true) a w) -> K' a w) -> if Region.wanted o (yielded ops a.tmps) = true then Oper.wp P o a w K' Q else K' (a.put o.dst undef) w) (h2 : ∀ K' : Act -> World -> Prop, Shut (∀ a w, S w -> (S w -> wpAnyH P md ops Q S fuel (listed.setIfInBounds j true) a w) -> K' a w) -> if Region.wanted o2 (yielded ops a.tmps) = true then Oper.wp P o2 a w K' Q else K' (a.put o2.dst undef) w)
    (h3 : ∀ K' : Act -> World -> Prop, Shut (∀ a w, S w -> (S w -> wpAnyH P md ops Q S fuel (listed.setIfInBounds k true) a w) -> K' a w) -> if Region.wanted o3 (yielded ops a.tmps) = true then Oper.wp P o3 a w K' Q else K' (a.put o3.dst undef) w)
    (ho : ops[i]? = some o := by rfl) (ho2 : ops[j]? = some o2 := by rfl) (ho3 : ops[k]? = some o3 := by rfl) (hr : Region.ready md ops listed = [i, j, k] := by kernel_rfl) : wpAnyH P md ops Q S (fuel + 1) listed a w := wpAnyH_ready hr (by simp) (.cons ho h (.cons ho2 h2 (.cons ho3 h3 .nil)))
theorem zdn (h : Q .normal a w) (hr : Region.ready md ops listed = [] := by kernel_rfl) : wpAnyH P md ops (NoPanic Q) S fuel listed a w := wpAnyH_done hr (NoPanic.normal h) _
end
section
variable {P : Program} {md : Region.Mode} {ops : Array Oper} {Q : Go.Exit -> Act -> World -> Prop} {S : World -> Prop} {z fuel : Nat} {listed : Array Bool} {a : Act} {w : World}
def ZPk (_ : List Nat) (P : Program) (md : Region.Mode) (ops : Array Oper) (Q : Go.Exit -> Act -> World -> Prop) (S : World -> Prop) (z fuel : Nat) (listed : Array Bool) (a : Act) (w : World) : Prop := anyUpTo P md ops Q S z fuel listed a w
theorem zpk (is : List Nat) (h : ZPk is P md ops Q S z fuel listed a w) : anyUpTo P md ops Q S z fuel listed a w := h
theorem zp1 (i : Nat) (h : ZPk [i] P md ops Q S z fuel listed a w) : anyUpTo P md ops Q S z fuel listed a w := h
theorem zpe (h : anyUpTo P md ops Q S z fuel listed a w) : ZPk [] P md ops Q S z fuel listed a w := h
theorem zpn {i : Nat} {is : List Nat} {oi : Oper} {v : Value} (hi : ops[i]? = some oi := by rfl) (hw : Region.wanted oi (yielded ops a.tmps) = true := by rfl) (hy : ∀ w, S w -> (execOp a.eval oi).run P w = .ok (.value v) w := by (intro w hSw; (try dsimp only at hSw); go_simp<;>with_reducible rfl)) (hS : S w := by assumption) (hz : waitsForAll md ops z = true := by kernel_rfl) (hs : Region.noSelect ops = true := by kernel_rfl) (hiz : i ≠ z := by decide) (hf : Region.free md ops listed i = true := by kernel_rfl) (hr : (Region.ready md ops listed).contains i = true := by kernel_rfl)
    (hQ : ∀ c a w, Q (.panic c) (a.put oi.dst v) w -> Q (.panic c) a w := by exact fun _ _ _ h => h) (h : ZPk is P md ops Q S z fuel (listed.setIfInBounds i true) (a.put oi.dst v) w) : ZPk (i :: is) P md ops Q S z (fuel + 1) listed a w := upTo_taken hz hi hs hiz hf hr hQ (.inl ⟨hw, hy⟩) hS h
theorem zpu {i : Nat} {is : List Nat} {oi : Oper} (hi : ops[i]? = some oi := by rfl) (hw : Region.wanted oi (yielded ops a.tmps) = false := by rfl) (hS : S w := by assumption) (hz : waitsForAll md ops z = true := by kernel_rfl) (hs : Region.noSelect ops = true := by kernel_rfl) (hiz : i ≠ z := by decide) (hf : Region.free md ops listed i = true := by kernel_rfl) (hr : (Region.ready md ops listed).contains i = true := by kernel_rfl)
    (hQ : ∀ c a w, Q (.panic c) (a.put oi.dst undef) w -> Q (.panic c) a w := by exact fun _ _ _ h => h) (h : ZPk is P md ops Q S z fuel (listed.setIfInBounds i true) (a.put oi.dst undef) w) : ZPk (i :: is) P md ops Q S z (fuel + 1) listed a w := upTo_taken hz hi hs hiz hf hr hQ (.inr ⟨hw, rfl⟩) hS h
end
end Go.Proofs.YtaefjifcnoiplaaGreat
