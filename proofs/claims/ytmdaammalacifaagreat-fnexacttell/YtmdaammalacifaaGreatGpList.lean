/-
  Lists of groups, each with its three lists: how they lie, what the laws' to, sz, eq, mark and held functions of them do; the argument opened. No condition but that there are at most 1048576.
-/
import Derived.Test.YtmdaammalacifaaGreatRecs
import Derived.Test.YtmdaammalacifaaGreatGroups
set_option linter.unusedVariables false
set_option linter.unusedSimpArgs false
set_option maxRecDepth 100000
set_option maxHeartbeats 8000000
namespace Go.Proofs.YtmdaammalacifaaGreat.Gen
open ChangeShapes WideShapes ChangeAt RowKit Joins Deep Base
structure GC where
  gen : Int
  a1 : Option Addr
  c1 : Nat
  m : List Int
  a2 : Option Addr
  c2 : Nat
  b : List Int
  a3 : Option Addr
  c3 : Nat
  o : List Int
instance : Inhabited GC := ⟨⟨0, none, 0, [], none, 0, [], none, 0, []⟩⟩
instance : Cel GC where
  k := 4
  cs x := [.int .i64 x.gen, .slice x.a1 x.m.length x.c1, .slice x.a2 x.b.length x.c2, .slice x.a3 x.o.length x.c3]
  len _ := rfl
  one x u hu := by simp at hu; rcases hu with rfl | rfl | rfl | rfl<;>rfl
structure PG where
  gen : Int
  m : List Int
  b : List Int
  o : List Int
def GC.p (x : GC) : PG := ⟨x.gen, x.m, x.b, x.o⟩
def GC.right (x : GC) : Prop := I64 x.gen /\ (x.m.length <= 9223372036854775807 /\ x.b.length <= 9223372036854775807 /\ x.o.length <= 9223372036854775807) /\ (∀ y ∈ x.m, I64 y) /\ (∀ y ∈ x.b, I64 y) /\ ∀ y ∈ x.o, I64 y
def atG (w : World) (x : GC) : Prop := At w x.a1 x.m /\ At w x.a2 x.b /\ At w x.a3 x.o
theorem atG.below {w w' : World} {x : GC} (h : atG w x) (hw : Below w.heap.size w w') : atG w' x := ⟨h.1.below hw, h.2.1.below hw, h.2.2.below hw⟩
def EachG (w : World) (l : List GC) : Prop := ∀ x ∈ l, atG w x
theorem EachG.below {w w' : World} {l : List GC} (h : EachG w l) (hw : Below w.heap.size w w') : EachG w' l := fun x hx => (h x hx).below hw
def grpP (w : World) (x : GC) (S : Nat -> Prop) : Prop :=
  ∃ S1 S2 S3 : Nat -> Prop, (∀ y, S1 y -> S y) /\ (∀ y, S2 y -> S y) /\ (∀ y, S3 y -> S y) /\ (∀ y, S1 y -> ¬ S2 y) /\ (∀ y, S1 y -> ¬ S3 y) /\ (∀ y, S2 y -> ¬ S3 y) /\ Sub w x.a1 x.m S1 /\ Sub w x.a2 x.b S2 /\ Sub w x.a3 x.o S3
theorem Qau : Firm grpP := fun w w' x S T ⟨S1, S2, S3, i1, i2, i3, d1, d2, d3, s1, s2, s3⟩ k hd =>
 ⟨S1, S2, S3, i1, i2, i3, d1, d2, d3, s1.offp k (fun y hy => hd y (i1 y hy)), s2.offp k (fun y hy => hd y (i2 y hy)), s3.offp k (fun y hy => hd y (i3 y hy))⟩
theorem grpP_at {w : World} {x : GC} {S : Nat -> Prop} (h : grpP w x S) : atG w x := by
 obtain ⟨S1, S2, S3, i1, i2, i3, d1, d2, d3, s1, s2, s3⟩ := h
 exact ⟨s1.at, s2.at, s3.at⟩
theorem grpP_each {S : Nat -> Prop} {w : World} {a : Option Addr} {l : List GC} (h : Own grpP w a l S) : EachG w l := h.each (fun x S hx => grpP_at hx)
theorem In.getGC {w : World} {b o : Nat} {l : List GC} (h : In w b o l) (i : Nat) (hi : i < l.length) :
 w.cell? ⟨b, o + i * 4, none⟩ = some (.int .i64 l[i].gen) /\ w.cell? ⟨b, o + i * 4 + 1, none⟩ = some (.slice l[i].a1 l[i].m.length l[i].c1) /\ w.cell? ⟨b, o + i * 4 + 2, none⟩ = some (.slice l[i].a2 l[i].b.length l[i].c2) /\ w.cell? ⟨b, o + i * 4 + 3, none⟩ = some (.slice l[i].a3 l[i].o.length l[i].c3) :=
 ⟨h.cell i hi (f := 0) rfl, h.cell i hi (f := 1) rfl, h.cell i hi (f := 2) rfl, h.cell i hi (f := 3) rfl⟩
theorem infoGC : (Tryz.prog.info? 173).map (fun i => (i.zero, i.size, i.bytes)) = some (some (.agg #[.int .i64 0, .slice none 0 0, .slice none 0 0, .slice none 0 0]), 4, 80) := by kernel_rfl
def szGC (x : GC) : Nat := x.m.length + x.b.length + x.o.length
theorem Qfh (A : Option Addr) (cap : Nat) (l : List GC) (hl : l.length <= 9223372036854775807) (hr : ∀ x ∈ l, x.right) (left : Int) (h0 : 0 <= left) (h1 : left <= 1048576) (w : World) (hA : At w A l) (hE : EachG w l) :
 Calls Tryz.prog 58 #[.slice A l.length cap, .int .i64 left] w fun e w' => (∃ r : Int, e = .returned (.int .i64 r) /\ (r < 0 ∨ (0 <= r /\ r = left - (l.length : Int) - (Qae szGC l : Int)))) /\ Below w.heap.size w w' := by
 have HA := hidP hA
 have Hr := hidP hr
 have HE := hidP hE
 clear hA hr hE
 by_cases h : left < (l.length : Int)
 . have g : left - (l.length : Int) < 0 := by omega
   go_enter Tryz.func58, Tryz.ntmps58
   go_wp2
   go_ret
   exact ⟨⟨-1, rfl, .inl (by omega)⟩, Below.refl _ _⟩
 . have g : ¬ left - (l.length : Int) < 0 := by omega
   go_enter Tryz.func58, Tryz.ntmps58
   go_wp2
   go_loopw [1, 5] (fun q i w' => ∃ (n : Nat) (z : Int), i = .int .i64 (n : Int) /\ q = .int .i64 z /\ n <= l.length /\ 0 <= z /\ z <= 1048576 /\ Hid (z = left - (l.length : Int) - (Qae szGC (l.take n) : Int)) /\ Below w.heap.size w w') (fun _ i _ => l.length - (intOf i).toNat)
   case atStart => exact ⟨0, _, rfl, rfl, by omega, by omega, by omega, by simp [Hid, Qae], Below.refl _ _⟩
   case round =>
    obtain ⟨n, z, rfl, rfl, hn, hz0, hz1, hz, hbl⟩ := hrel
    by_cases hlt : n < l.length
    . obtain ⟨b, o, rfl, hbs, hIn⟩ : ∃ b o, A = some ⟨b, o, none⟩ /\ b < w.heap.size /\ In w b o l := by
       rcases HA.out with h | h
       . subst h; simp at hlt
       . exact h
      obtain ⟨c0, c1, c2, c3⟩ := (hIn.below hbs hbl).getGC n hlt
      have hms := hidP (Hr.out _ (List.getElem_mem hlt))
      have hsn := hidP (Qas szGC l n hlt)
      by_cases hs : z < ((l[n].m.length + l[n].b.length + l[n].o.length : Nat) : Int)
      . go_wp2_with fail
        refine (Qdx _ _ _ _ _ _ _ _ _ _ hms.out.2.1.1 hms.out.2.1.2.1 hms.out.2.1.2.2 z hz0 hz1 _).mono ?_
        rw [if_pos hs]
        rintro e w1 ⟨rfl, g1⟩
        go_wp2
        go_ret
        exact ⟨⟨-1, rfl, .inl (by omega)⟩, via0 g1 hbl⟩
      . obtain ⟨r, hr⟩ : ∃ r : Int, r = z - ((l[n].m.length + l[n].b.length + l[n].o.length : Nat) : Int) := ⟨_, rfl⟩
        have hp : ¬ r < 0 := by omega
        have HS := hidP hs
        have HR1 := hidP hr
        clear hr hs
        go_wp2_with fail
        refine (Qdx _ _ _ _ _ _ _ _ _ _ hms.out.2.1.1 hms.out.2.1.2.1 hms.out.2.1.2.2 z hz0 hz1 _).mono ?_
        rw [if_neg (by have := HS.out; omega), ← HR1.out]
        rintro e w1 ⟨rfl, g1⟩
        go_wp2
        have hz' := hz.out
        have hsn' := hsn.out
        have hr' := HR1.out
        exact ⟨⟨n + 1, r, by go_num, rfl, by omega, by omega, by omega, by show _ = _; rw [hsn', hr', hz']; simp only [szGC]; omega, via0 g1 hbl⟩, by simp [intOf]; omega⟩
    . have e : l.take n = l := List.take_of_length_le (by omega)
      go_wp2
      go_ret
      have hz' := hz.out
      rw [e] at hz'
      exact ⟨⟨z, rfl, .inr ⟨hz0, hz'⟩⟩, hbl⟩
theorem three_P {n : Nat} {w : World} {x y z : Nat} {m b o : List Int} {gen : Int} {c1 c2 c3 : Nat} (h : Three n w x y z m b o) : grpP w ⟨gen, some ⟨x, 0, none⟩, c1, m, some ⟨y, 0, none⟩, c2, b, some ⟨z, 0, none⟩, c3, o⟩ (fun i => i = x ∨ i = y ∨ i = z) := by
 have h2 := h.xy; have h3 := h.yz; have h4 := h.zs
 exact ⟨fun i => i = x, fun i => i = y, fun i => i = z, fun _ e => .inl e, fun _ e => .inr (.inl e), fun _ e => .inr (.inr e), fun _ e e' => by omega, fun _ e e' => by omega, fun _ e e' => by omega,
  .inr ⟨x, 0, rfl, rfl, by omega, h.im, h.tm⟩, .inr ⟨y, 0, rfl, rfl, by omega, h.ib, h.tb⟩, .inr ⟨z, 0, rfl, rfl, h.zs, h.io, h.to⟩⟩
theorem Qfa (A : Option Addr) (cap : Nat) (l : List GC) (hl : l.length <= 1048576) (hr : ∀ x ∈ l, x.m.length <= 1048576 /\ x.b.length <= 1048576 /\ x.o.length <= 1048576) (w : World) (hA : At w A l) (hE : EachG w l) :
 Calls Tryz.prog 69 #[.slice A l.length cap] w fun e w' => e = .returned (.slice (some ⟨w.heap.size, 0, none⟩) l.length l.length) /\ Below w.heap.size w w' /\ ∃ l', Grow grpP w' w.heap.size l.length l' /\ l'.map GC.p = l.map GC.p := by
 have HA := hidP hA
 have HE := hidP hE
 have Hr := hidP hr
 clear hA hE hr
 have hmk := Qb2 (P := Tryz.prog) Tryz.underlying50 infoGC (by omega) l.length hl
 go_enter Tryz.func69, Tryz.ntmps69
 go_wp2
 go_loopw [4] (fun i w' => ∃ (n : Nat) (pre : List GC), i = .int .i64 (n : Int) /\ n <= l.length /\ Below w.heap.size w w' /\ w.heap.size < w'.heap.size /\ Hid (pre.length = n) /\ Hid (Grow grpP w' w.heap.size l.length pre) /\ Hid (pre.map GC.p = (l.take n).map GC.p)) (fun i _ => l.length - (intOf i).toNat)
 case atStart => exact ⟨0, [], rfl, by omega, by repeat (first | exact Below.refl _ _ | assumption | refine via0 (by assumption) ?_ | refine Below.drew ?_ | refine Qab ?_ _), by simp, rfl, Grow.start (by simp) (Qa9 w _ _ _ _), by simp [Hid]⟩
 case round =>
  obtain ⟨n, pre, rfl, hn, hbl, hsz, hpl, hgr, hsame⟩ := hrel
  by_cases hlt : n < l.length
  . obtain ⟨b, o, rfl, hbs, hIn⟩ : ∃ b o, A = some ⟨b, o, none⟩ /\ b < w.heap.size /\ In w b o l := by
     rcases HA.out with h | h
     . subst h; simp at hlt
     . exact h
    obtain ⟨c0, c1, c2, c3⟩ := (hIn.below hbs hbl).getGC n hlt
    have hms := Hr.out _ (List.getElem_mem hlt)
    have hat := hidP ((HE.out _ (List.getElem_mem hlt)).below hbl)
    obtain ⟨⟨v0, d0⟩, f0⟩ := Qad (f := 0) hgr.out.th hlt (by decide)
    obtain ⟨⟨v1, d1⟩, f1⟩ := Qad (f := 1) hgr.out.th hlt (by decide)
    obtain ⟨⟨v2, d2⟩, f2⟩ := Qad (f := 2) hgr.out.th hlt (by decide)
    obtain ⟨⟨v3, d3⟩, f3⟩ := Qad (f := 3) hgr.out.th hlt (by decide)
    simp only [Nat.zero_add, Nat.add_zero, show Cel.k GC = 4 from rfl] at d0 f0 d1 f1 d2 f2 d3 f3
    go_wp2_with (go_at_call 112; refine (Qgm _ _ _ _ _ _ _ _ _ _ hms.1 hms.2.1 hms.2.2 _ hat.out.1 hat.out.2.1 hat.out.2.2).mono ?_; rintro e w1 ⟨bx, by1, bz, rfl, g1, h3⟩; obtain ⟨k1, m1⟩ := Qbf g1; have s1 := g1.size; have H3 := hidP h3; clear h3)
    have hpl' := hpl.out
    have t3 := H3.out
    have hst := hgr.out.snoc Qau (by omega) g1 (y := (⟨l[n].gen, some ⟨bx, 0, none⟩, l[n].m.length, l[n].m, some ⟨by1, 0, none⟩, l[n].b.length, l[n].b, some ⟨bz, 0, none⟩, l[n].o.length, l[n].o⟩ : GC)) (S := fun x => x = bx ∨ x = by1 ∨ x = bz) (three_P H3.out) (fun x hx => by have h1 := t3.nx; have h2 := t3.xy; have h3 := t3.yz; have h4 := t3.zs; rcases hx with rfl | rfl | rfl<;>exact ⟨by omega, by omega⟩)
    rw [hpl'] at hst
    refine ⟨⟨n + 1, _, by go_num, by omega, ?_, by simp; omega, ?_, hst, ?_⟩, by simp [intOf]; omega⟩
    . exact (((((via0 g1 hbl).setCell (Nat.le_refl _) _).setCell (Nat.le_refl _) _).setCell (Nat.le_refl _) _).setCell (Nat.le_refl _) _)
    . show _ = _; simp [hpl']
    . show _ = _
      rw [List.map_append, hsame.out, List.take_succ_eq_append_getElem hlt, List.map_append]
      rfl
  . have e : l.take n = l := List.take_of_length_le (by omega)
    go_wp2
    go_ret
    exact ⟨rfl, hbl, pre, hgr.out, by rw [hsame.out, e]⟩
theorem Qe3 (A A' : Option Addr) (cap cap' : Nat) (l l' : List GC) (hl : l.length <= 9223372036854775807) (hr : ∀ x ∈ l, x.m.length <= 9223372036854775807 /\ x.b.length <= 9223372036854775807 /\ x.o.length <= 9223372036854775807) (hsame : l'.map GC.p = l.map GC.p) (w : World) (hA : At w A l) (hE : EachG w l) (hA' : At w A' l') (hE' : EachG w l') :
 Calls Tryz.prog 83 #[.slice A l.length cap, .slice A' l.length cap'] w fun e w' => e = .returned (.bool true) /\ Below w.heap.size w w' := by
 have HA := hidP hA
 have HE := hidP hE
 have HA' := hidP hA'
 have HE' := hidP hE'
 have Hr := hidP hr
 have HS := hidP hsame
 have HLL : Hid (l'.length = l.length) := by have := congrArg List.length hsame; show _ = _; simpa using this
 clear hA hE hA' hE' hr hsame
 go_enter Tryz.func83, Tryz.ntmps83
 go_wp2
 go_loopw [5] (fun i w' => ∃ (n : Nat), i = .int .i64 (n : Int) /\ n <= l.length /\ Below w.heap.size w w') (fun i _ => l.length - (intOf i).toNat)
 case atStart => exact ⟨0, rfl, by omega, Below.refl _ _⟩
 case round =>
  obtain ⟨n, rfl, hn, hbl⟩ := hrel
  by_cases hlt : n < l.length
  . have hll := HLL.out
    obtain ⟨b, o, rfl, hbs, hin⟩ : ∃ b o, A = some ⟨b, o, none⟩ /\ b < w.heap.size /\ In w b o l := by
     rcases HA.out with h | h
     . subst h; simp at hlt
     . exact h
    obtain ⟨b', o', rfl, hbs', hin'⟩ : ∃ b o, A' = some ⟨b, o, none⟩ /\ b < w.heap.size /\ In w b o l' := by
     rcases HA'.out with h | h
     . subst h; simp at hll; omega
     . exact h
    have hp : (l'[n]'(by omega)).p = l[n].p := by
     have h1 : (l'.map GC.p)[n]'(by simp; omega) = (l.map GC.p)[n]'(by simpa using hlt) := by simp only [HS.out]
     simpa using h1
    obtain ⟨c0, c1, c2, c3⟩ := (hin.below hbs hbl).getGC n hlt
    obtain ⟨d0, d1, d2, d3⟩ := (hin'.below hbs' hbl).getGC n (by omega)
    have hat := HE.out _ (List.getElem_mem hlt)
    have hat' := HE'.out _ (List.getElem_mem (show n < l'.length by omega))
    have hms := Hr.out _ (List.getElem_mem hlt)
    generalize l'[n]'(by omega) = y at hp d0 d1 d2 d3 hat'
    generalize l[n] = x at hp c0 c1 c2 c3 hat hms
    obtain ⟨yg, y1, yc1, ym, y2, yc2, yb, y3, yc3, yo⟩ := y
    obtain ⟨xg, x1, xc1, xm, x2, xc2, xb, x3, xc3, xo⟩ := x
    simp only [GC.p, PG.mk.injEq] at hp
    obtain ⟨rfl, rfl, rfl, rfl⟩ := hp
    simp only at c0 c1 c2 c3 d0 d1 d2 d3 hms
    have Hat := hidP (hat.below hbl)
    have Hat' := hidP (hat'.below hbl)
    clear hat hat' hll
    have hb1 : b < wr.heap.size := Nat.lt_of_lt_of_le hbs hbl.size
    have hb2 : b' < wr.heap.size := Nat.lt_of_lt_of_le hbs' hbl.size
    have hi0 : (0 : Int) <= (n : Int) := by omega
    have hi1 : (n : Int) < (l.length : Int) := by omega
    go_wp2
    go_region_held3 (fun w' => w'.cell? ⟨b, o + n * 4, none⟩ = some (.int .i64 yg) /\ w'.cell? ⟨b, o + n * 4 + 1, none⟩ = some (.slice x1 ym.length xc1) /\ w'.cell? ⟨b, o + n * 4 + 2, none⟩ = some (.slice x2 yb.length xc2) /\ w'.cell? ⟨b, o + n * 4 + 3, none⟩ = some (.slice x3 yo.length xc3) /\
     w'.cell? ⟨b', o' + n * 4, none⟩ = some (.int .i64 yg) /\ w'.cell? ⟨b', o' + n * 4 + 1, none⟩ = some (.slice y1 ym.length yc1) /\ w'.cell? ⟨b', o' + n * 4 + 2, none⟩ = some (.slice y2 yb.length yc2) /\ w'.cell? ⟨b', o' + n * 4 + 3, none⟩ = some (.slice y3 yo.length yc3) /\ wr.heap.size <= w'.heap.size)
     (first | (go_split_ands; refine ⟨?_, ?_, ?_, ?_, ?_, ?_, ?_, ?_, ?_⟩<;>first | assumption | exact (k1 _ _ hb1).trans (by assumption) | exact (k1 _ _ hb2).trans (by assumption) | exact s1 | (simp; done)) | go_keep)
     (first
      | (go_at_call 124; refine (Qgh _ _ _ _ _ _ _ _ _ _ _ _ _ ym yb yo hms.1 hms.2.1 hms.2.2 _ (Hat.out.1.below (Below.drew (Below.refl _ _))) (Hat.out.2.1.below (Below.drew (Below.refl _ _))) (Hat.out.2.2.below (Below.drew (Below.refl _ _))) (Hat'.out.1.below (Below.drew (Below.refl _ _))) (Hat'.out.2.1.below (Below.drew (Below.refl _ _))) (Hat'.out.2.2.below (Below.drew (Below.refl _ _)))).mono ?_; rintro e w1 ⟨rfl, g1⟩; obtain ⟨k1, m1⟩ := Qbf g1; have s1 := g1.size))
    all_goals
     go_wp2
     exact ⟨⟨n + 1, by go_num, by omega, via0 g1 hbl.drew⟩, by simp [intOf]; omega⟩
  . go_wp2
    go_ret
    exact ⟨rfl, hbl⟩
def cG (x : GC) : Nat := 1 + x.m.length + x.b.length + x.o.length
def mG (x : GC) (z : Int) : GC := ⟨z, x.a1, x.c1, Qaq x.m.length (z + 1), x.a2, x.c2, Qaq x.b.length (z + 1 + x.m.length), x.a3, x.c3, Qaq x.o.length (z + 1 + x.m.length + x.b.length)⟩
theorem Qci (a : Option Addr) (cap : Nat) (l : List Int) (S : Nat -> Prop) (k : Int) (hk : 1 <= k) (hk' : k <= 100000000) (hl : l.length <= 2000000) (w : World) (h : Sub w a l S) :
 Calls Tryz.prog 44 #[.slice a l.length cap, .int .i64 k] w fun e w' => e = .returned (.int .i64 (k + (l.length : Int))) /\ Offp S w w' /\ Sub w' a (Qaq l.length k) S := by
 rcases h with rfl | ⟨b, o, rfl, hS, hb, hi, ht⟩
 . refine (Qf0 a cap k w).mono ?_
   rintro e w' ⟨rfl, rfl⟩
   exact ⟨by simp, Offp.refl _ _, .inl rfl⟩
 . refine (Qg1 b o cap l.length k hk hk' hl w hb ht).mono ?_
   rintro e w' ⟨rfl, ko, hin, hth⟩
   exact ⟨rfl, (Offp.of_only ko).mono (fun x e => e ▸ hS), .inr ⟨b, o, rfl, hS, Nat.lt_of_lt_of_le hb ko.size, hin, by rw [Qax]; exact hth⟩⟩
theorem Qeb (b o cap : Nat) (l : List GC) (fp : Nat -> Nat -> Prop) (k : Int) (hk : 1 <= k) (hk' : k <= 50000000) (hc : Qae cG l <= 50000000) (hl : l.length <= 1048576) (hs : ∀ x ∈ l, x.m.length <= 1048576 /\ x.b.length <= 1048576 /\ x.o.length <= 1048576) (w : World) (hO : OwnF grpP w b o l fp) :
 Calls Tryz.prog 90 #[.slice (some ⟨b, o, none⟩) l.length cap, .int .i64 k] w fun e w' => e = .returned (.int .i64 (k + (Qae cG l : Int))) /\ Offp (fun x => x = b ∨ ∃ i, fp i x) w w' /\ OwnF grpP w' b o (marked mG cG l k) fp := by
 have HO := hidP hO
 have Hs := hidP hs
 have Hc := hidP hc
 clear hO hs hc
 go_enter Tryz.func90, Tryz.ntmps90
 go_wp2
 go_loopw [1, 5] (fun kk i w' => ∃ (n : Nat) (z : Int), i = .int .i64 (n : Int) /\ kk = .int .i64 z /\ n <= l.length /\ 1 <= z /\ z <= 100000000 /\ Hid (z = k + (Qae cG (l.take n) : Int)) /\ Hid (Offp (fun x => x = b ∨ ∃ i, fp i x) w w') /\ Hid (OwnF grpP w' b o (half mG cG l k n) fp)) (fun _ i _ => l.length - (intOf i).toNat)
 case atStart => exact ⟨0, k, rfl, rfl, by omega, hk, by omega, by simp [Hid, Qae], Offp.refl _ _, by rw [Qc8]; exact HO.out⟩
 case round =>
  obtain ⟨n, z, rfl, rfl, hn, hz1, hz2, hz, hoff, hown⟩ := hrel
  by_cases hlt : n < l.length
  . have hhl := Qcm mG cG l k n
    have hge := Qdr mG cG l k n hlt (by omega)
    have hit := Hs.out _ (List.getElem_mem hlt)
    obtain ⟨c0, c1, c2, c3⟩ := hown.out.lst.getGC n (by omega)
    have hth := hown.out.th
    rw [hhl] at hth
    obtain ⟨_, f0⟩ := Qad (f := 0) hth hlt (by decide)
    simp only [Nat.add_zero, show Cel.k GC = 4 from rfl] at f0
    rw [hge] at c0 c1 c2 c3
    have hsu := Qc9 mG cG l k n hlt
    rw [← hz.out] at hsu
    have hcn : Qae cG (l.take n) + cG l[n] <= 50000000 := by rw [← Qas cG l n hlt]; exact Nat.le_trans (Qcb cG l (n + 1)) Hc.out
    have Hsn := hidP (Qas cG l n hlt)
    generalize hx : l[n] = x at c0 c1 c2 c3 hit hsu hcn hge Hsn
    obtain ⟨xg, x1, xc1, xm, x2, xc2, xb, x3, xc3, xo⟩ := x
    simp only at c0 c1 c2 c3 hit
    have O1 := hown.out.set1 Qau n (by omega) ⟨z, x1, xc1, xm, x2, xc2, xb, x3, xc3, xo⟩ 0 (by decide) (.int .i64 z) (by rw [hge]; rfl) (fun W S h => by rw [hge] at h; exact h)
    simp only [Nat.add_zero, show Cel.k GC = 4 from rfl] at O1
    have Hhl := hidP hhl
    have Hsu := hidP hsu
    have Hcn := hidP hcn
    have HO1 := hidP O1
    have hsub := O1.sub n (by simp; omega)
    rw [List.getElem_set_self] at hsub
    obtain ⟨S1, S2, S3, i1, i2, i3, e1, e2, e3, s1, s2, s3⟩ := hsub
    have hlen : n < ((half mG cG l k n).set n ⟨z, x1, xc1, xm, x2, xc2, xb, x3, xc3, xo⟩).length := by rw [List.length_set]; omega
    have Hlen := hidP hlen
    have H1 := hidP s1
    have H2 := hidP s2
    have H3 := hidP s3
    have hzc : z + 1 + xm.length + xb.length + xo.length <= 100000000 := by
     have h3 := hz.out; have h4 := Hcn.out; simp only [cG] at h4; omega
    clear hx hhl hsu hcn O1 hge hth s1 s2 s3 hlen
    go_wp2_with fail
    refine (Qci x1 xc1 xm S1 (z + 1) (by omega) (by omega) (by omega) _ H1.out).mono ?_
    rintro e w1 ⟨rfl, k1, t1⟩
    have O2 := HO1.out.turn Qau n Hlen.out ⟨z, x1, xc1, Qaq xm.length (z + 1), x2, xc2, xb, x3, xc3, xo⟩ (by rw [List.getElem_set_self]; simp only [Cel.cs, Qax, mG]) (k1.mono i1) ⟨S1, S2, S3, i1, i2, i3, e1, e2, e3, t1, H2.out.offp k1 (fun y h h' => e1 y h' h), H3.out.offp k1 (fun y h h' => e2 y h' h)⟩
    rw [List.set_set] at O2
    obtain ⟨_, _, c2', c3'⟩ := O2.lst.getGC n (by simp; have := Hhl.out; omega)
    simp only [List.getElem_set_self] at c2' c3'
    have HO2 := hidP O2
    have Hk1 := hidP k1
    have Ht1 := hidP t1
    clear c0 c1 c2 c3 O2 k1 t1
    go_wp2_with fail
    refine (Qci x2 xc2 xb S2 _ (by omega) (by omega) (by omega) _ (H2.out.offp Hk1.out (fun y h h' => e1 y h' h))).mono ?_
    rintro e w2 ⟨rfl, k2, t2⟩
    have O3 := HO2.out.turn Qau n (by rw [List.length_set]; have := Hhl.out; omega) ⟨z, x1, xc1, Qaq xm.length (z + 1), x2, xc2, Qaq xb.length (z + 1 + xm.length), x3, xc3, xo⟩ (by rw [List.getElem_set_self]; simp only [Cel.cs, Qax, mG]) (k2.mono i2) ⟨S1, S2, S3, i1, i2, i3, e1, e2, e3, Ht1.out.offp k2 e1, t2, (H3.out.offp Hk1.out (fun y h h' => e2 y h' h)).offp k2 (fun y h h' => e3 y h' h)⟩
    rw [List.set_set] at O3
    obtain ⟨_, _, _, c3⟩ := O3.lst.getGC n (by simp; have := Hhl.out; omega)
    simp only [List.getElem_set_self] at c3
    have HO3 := hidP O3
    have Hk2 := hidP k2
    have Ht2 := hidP t2
    clear c2' c3' O3 k2 t2
    go_wp2_with fail
    refine (Qci x3 xc3 xo S3 _ (by omega) (by omega) (by omega) _ ((H3.out.offp Hk1.out (fun y h h' => e2 y h' h)).offp Hk2.out (fun y h h' => e3 y h' h))).mono ?_
    rintro e w3 ⟨rfl, k3, t3⟩
    have O4 := HO3.out.turn Qau n (by rw [List.length_set]; have := Hhl.out; omega) (mG ⟨xg, x1, xc1, xm, x2, xc2, xb, x3, xc3, xo⟩ z) (by rw [List.getElem_set_self]; simp only [Cel.cs, Qax, mG]) (k3.mono i3) ⟨S1, S2, S3, i1, i2, i3, e1, e2, e3, (Ht1.out.offp Hk2.out e1).offp k3 e2, Ht2.out.offp k3 e3, t3⟩
    rw [List.set_set, ← Hsu.out] at O4
    have HO4 := hidP O4
    have Hk3 := hidP k3
    clear O4 k3 t3
    go_wp2
    have hz' := hz.out
    refine ⟨⟨n + 1, z + 1 + (xm.length : Int) + (xb.length : Int) + (xo.length : Int), by go_num, rfl, by omega, by omega, by omega, ?_, ?_, HO4.out⟩, by simp [intOf]; omega⟩
    . show _ = _; rw [Hsn.out, hz']; simp only [cG]; omega
    . exact (((hoff.out.set (.inl rfl) _ _).trans (Hk1.out.mono (fun x hx => .inr ⟨n, i1 x hx⟩))).trans (Hk2.out.mono (fun x hx => .inr ⟨n, i2 x hx⟩))).trans (Hk3.out.mono (fun x hx => .inr ⟨n, i3 x hx⟩))
  . obtain rfl : n = l.length := by omega
    go_wp2
    go_ret
    have e := hz.out
    rw [Qb4 cG l _ (Nat.le_refl _)] at e
    have hh := hown.out
    rw [Qds mG cG l k _ (Nat.le_refl _)] at hh
    subst e
    exact ⟨rfl, hoff.out, hh⟩
theorem Qe7 {W : World} {a : Option Addr} {q : Nat} {z : Int} (h : At W a (Qaq q z)) : q = 0 ∨ ∃ b o, a = some ⟨b, o, none⟩ /\ b < W.heap.size /\ In W b o (Qaq q z) :=
 h.imp (fun e => by have := congrArg List.length e; rw [Qax] at this; simpa using this) id
theorem Qee (A : Option Addr) (cap : Nat) (l : List GC) (k : Int) (hk : 1 <= k) (hk' : k <= 50000000) (hc : Qae cG l <= 50000000) (hl : l.length <= 1048576) (hs : ∀ x ∈ l, x.m.length <= 1048576 /\ x.b.length <= 1048576 /\ x.o.length <= 1048576) (w : World) (hA : At w A (marked mG cG l k)) (hE : EachG w (marked mG cG l k)) :
 Calls Tryz.prog 97 #[.slice A l.length cap, .int .i64 k] w fun e w' => e = .returned (.int .i64 (k + (Qae cG l : Int))) /\ Below w.heap.size w w' := by
 have HA := hidP hA
 have HE := hidP hE
 have Hs := hidP hs
 have Hc := hidP hc
 clear hA hE hs hc
 have HML := hidP (Qbd mG cG l k)
 go_enter Tryz.func97, Tryz.ntmps97
 go_wp2
 go_loopw [1, 5] (fun kk i w' => ∃ (n : Nat) (z : Int), i = .int .i64 (n : Int) /\ kk = .int .i64 z /\ n <= l.length /\ 1 <= z /\ z <= 100000000 /\ Hid (z = k + (Qae cG (l.take n) : Int)) /\ Below w.heap.size w w') (fun _ i _ => l.length - (intOf i).toNat)
 case atStart => exact ⟨0, k, rfl, rfl, by omega, hk, by omega, by simp [Hid, Qae], Below.refl _ _⟩
 case round =>
  obtain ⟨n, z, rfl, rfl, hn, hz1, hz2, hz, hbl⟩ := hrel
  by_cases hlt : n < l.length
  . have hml := HML.out
    obtain ⟨b, o, rfl, hbs, hin⟩ : ∃ b o, A = some ⟨b, o, none⟩ /\ b < w.heap.size /\ In w b o (marked mG cG l k) := by
     rcases HA.out with h | h
     . rw [h] at hml; simp at hml; omega
     . exact h
    have hmn : n < (marked mG cG l k).length := by omega
    have hge := Qcw mG cG l n hlt k hmn
    rw [← hz.out] at hge
    obtain ⟨c0, c1, c2, c3⟩ := (hin.below hbs hbl).getGC n hmn
    have hat := (HE.out _ (List.getElem_mem hmn)).below hbl
    rw [hge] at c0 c1 c2 c3 hat
    have hit := Hs.out _ (List.getElem_mem hlt)
    have hcn : Qae cG (l.take n) + cG l[n] <= 50000000 := by rw [← Qas cG l n hlt]; exact Nat.le_trans (Qcb cG l (n + 1)) Hc.out
    have Hsn := hidP (Qas cG l n hlt)
    generalize hx : l[n] = x at c0 c1 c2 c3 hit hcn hat Hsn
    obtain ⟨xg, x1, xc1, xm, x2, xc2, xb, x3, xc3, xo⟩ := x
    simp only [mG, Qax] at c0 c1 c2 c3 hit
    simp only [mG, atG] at hat
    have Hat := hidP hat
    have Hcn := hidP hcn
    have hzc : z + 1 + xm.length + xb.length + xo.length <= 100000000 := by
     have h3 := hz.out; have h4 := Hcn.out; simp only [cG] at h4; omega
    have hb1 : b < wr.heap.size := Nat.lt_of_lt_of_le hbs hbl.size
    clear hml hge hx hcn hat
    have n1 : ¬ z + 1 + (xm.length : Int) < 0 := by omega
    have n2 : ¬ z + 1 + (xm.length : Int) + (xb.length : Int) < 0 := by omega
    have n3 : ¬ z + 1 + (xm.length : Int) + (xb.length : Int) + (xo.length : Int) < 0 := by omega
    go_wp2_with fail
    refine (Qb0 x1 xc1 xm.length (z + 1) (by omega) (by omega) (by omega) _ (Qe7 Hat.out.1)).mono ?_
    rintro e w1 ⟨rfl, g1⟩
    obtain ⟨k1, m1⟩ := Qbf g1
    have q1 := Nat.lt_of_lt_of_le hb1 g1.size
    go_wp2_with fail
    refine (Qb0 x2 xc2 xb.length (z + 1 + (xm.length : Int)) (by omega) (by omega) (by omega) _ (Qe7 (Hat.out.2.1.below g1))).mono ?_
    rintro e w2 ⟨rfl, g2⟩
    obtain ⟨k2, m2⟩ := Qbf g2
    have q2 := Nat.lt_of_lt_of_le q1 g2.size
    go_wp2_with fail
    refine (Qb0 x3 xc3 xo.length (z + 1 + (xm.length : Int) + (xb.length : Int)) (by omega) (by omega) (by omega) _ (Qe7 ((Hat.out.2.2.below g1).below g2))).mono ?_
    rintro e w3 ⟨rfl, g3⟩
    go_wp2
    have hz' := hz.out
    refine ⟨⟨n + 1, z + 1 + (xm.length : Int) + (xb.length : Int) + (xo.length : Int), by go_num, rfl, by omega, by omega, by omega, ?_, via0 g3 (via0 g2 (via0 g1 hbl))⟩, by simp [intOf]; omega⟩
    show _ = _; rw [Hsn.out, hz']; simp only [cG]; omega
  . obtain rfl : n = l.length := by omega
    go_wp2
    go_ret
    have e := hz.out
    rw [Qb4 cG l _ (Nat.le_refl _)] at e
    subst e
    exact ⟨rfl, hbl⟩
theorem openGC {H : Type} {enc : TypeId × Value -> H} {w : World} {base n : Nat} {spare : Nat -> Bool} {held : Bool} {a : Addr} {cs : List Value} {y : DataW H × List MemPlace}
 (h1 : w.cells? base a 4 = some cs) (h2 : DataW.trod enc Tryz.prog w base spare held n 159 cs = some y) :
 ∃ x : GC, (x.right /\ atG w x) /\ a.spot = none /\ a.block < w.heap.size /\ ∀ j v, (Cel.cs x)[j]? = some v -> w.cell? ⟨a.block, a.off + j, none⟩ = some v := by
 obtain ⟨_, hlen, hc⟩ := World.cells?_some h1
 match cs, hlen with
 | [c0, c1, c2, c3], _ =>
  obtain ⟨m, hf⟩ := Qbt Tryz.underlying159 (by kernel_rfl) h2
  obtain ⟨y0, g0⟩ := hf 0 _ rfl _ rfl
  obtain ⟨y1, g1⟩ := hf 1 _ rfl _ rfl
  obtain ⟨y2, g2⟩ := hf 2 _ rfl _ rfl
  obtain ⟨y3, g3⟩ := hf 3 _ rfl _ rfl
  obtain ⟨gen, e0, _, w0⟩ := DataW.trod_int Tryz.underlying3 g0
  simp at e0
  subst e0
  obtain ⟨A, ca, ms, rfl, p1, p2, p3⟩ := Qck g1
  obtain ⟨B, cb, bs, rfl, b1, b2, b3⟩ := Qck g2
  obtain ⟨C, cc, os, rfl, o1, o2, o3⟩ := Qck g3
  have q0 := hc 0 (by omega)
  have hsp : a.spot = none := by
   cases hs : a.spot with
   | none => rfl
   | some s => exfalso; simp [Addr.add, World.cell?, hs] at q0; split at q0<;>simp at q0
  have hlt : a.block < w.heap.size := by
   rw [show a.add 0 = a from rfl] at q0
   unfold World.cell? at q0
   cases hh : w.heap[a.block]? with
   | none => simp [hh] at q0
   | some ob => exact (Array.getElem?_eq_some_iff.1 hh).1
  refine ⟨⟨gen, A, ca, ms, B, cb, bs, C, cc, os⟩, ⟨⟨Qa8 w0, ⟨p1, b1, o1⟩, p2, b2, o2⟩, p3, b3, o3⟩, hsp, hlt, ?_⟩
  intro j v hv
  have hj : j < 4 := (List.getElem?_eq_some_iff.1 hv).1
  have q := hc j hj
  have e : a.add j = ⟨a.block, a.off + j, none⟩ := by
   obtain ⟨b, o, s⟩ := a
   simp only at hsp
   subst hsp
   exact Addr.add_mid b o j
  rw [e] at q
  rw [q]
  exact hv
theorem Qen {H : Type} {enc : TypeId × Value -> H} {W : World} {base n : Nat} {spare : Nat -> Bool} {held : Bool} {c : Value} {y : DataW H × List MemPlace}
 (g : DataW.trod enc Tryz.prog W base spare held n 27 [c] = some y) :
 ∃ (A : Option Addr) (cap : Nat) (l : List GC), c = .slice A l.length cap /\ l.length <= 9223372036854775807 /\ (∀ x ∈ l, x.right) /\ At W A l /\ EachG W l := by
 rcases open_slice Tryz.underlying27 g with ⟨e2, _⟩ | ⟨a, len, cap, m, n', D, Pl, e2, _, hl, hm, hmm, _, hx⟩
 . simp at e2
   subst e2
   exact ⟨none, 0, [], rfl, by simp, by simp, .inl rfl, by simp [EachG]⟩
 . simp at e2
   subst e2
   have hle : len <= m := by rw [hmm]; split<;>omega
   rw [cellsGroup] at hx
   obtain ⟨X, hX⟩ := choose_lt (α := GC) (p := fun i x => (x.right /\ atG W x) /\ (a.add (i * 4)).spot = none /\ (a.add (i * 4)).block < W.heap.size /\ ∀ j v, (Cel.cs x)[j]? = some v -> W.cell? ⟨(a.add (i * 4)).block, (a.add (i * 4)).off + j, none⟩ = some v)
    (n := len) (fun i hi => by obtain ⟨cs', h1, h2⟩ := hx i (by omega); exact openGC h1 h2)
   obtain ⟨l, rfl, hR, hat⟩ := Qd3 (α := GC) (by decide) (R := fun x => x.right /\ atG W x) hX
   exact ⟨some a, cap, l, rfl, by simp [maxLen] at hm ⊢; omega, fun x hx => (hR x hx).1, hat, fun x hx => (hR x hx).2⟩
end Go.Proofs.YtmdaammalacifaaGreat.Gen
