/-
  Lists of groups, each with its three lists: how they lie, what the laws' to, sz, eq, mark and held functions of them do; the argument opened. No condition but that there are at most 1048576.
-/
import Derived.Test.YtbcbdhjeebcleaaGreatDoorRowList
set_option linter.unusedVariables false
set_option linter.unusedSimpArgs false
set_option maxRecDepth 100000
set_option maxHeartbeats 8000000
namespace Go.Proofs.YtbcbdhjeebcleaaGreatDoor.Gen
open ChangeShapes WideShapes ChangeAt RowKit Joins Deep Base
structure GC where
  gen : Int
  a1 : Option Addr
  c1 : Nat
  m : List Int
  a2 : Option Addr
  c2 : Nat
  b : List Int
  a3 : Option Addr
  c3 : Nat
  o : List Int
instance : Inhabited GC := ⟨⟨0, none, 0, [], none, 0, [], none, 0, []⟩⟩
instance : Cel GC where
  k := 4
  cs x := [.int .i64 x.gen, .slice x.a1 x.m.length x.c1, .slice x.a2 x.b.length x.c2, .slice x.a3 x.o.length x.c3]
  len _ := rfl
  one x u hu := by simp at hu; rcases hu with rfl | rfl | rfl | rfl<;>rfl
structure PG where
  gen : Int
  m : List Int
  b : List Int
  o : List Int
def GC.p (x : GC) : PG := ⟨x.gen, x.m, x.b, x.o⟩
def GC.right (x : GC) : Prop := I64 x.gen /\ (x.m.length <= 9223372036854775807 /\ x.b.length <= 9223372036854775807 /\ x.o.length <= 9223372036854775807) /\ (∀ y ∈ x.m, I64 y) /\ (∀ y ∈ x.b, I64 y) /\ ∀ y ∈ x.o, I64 y
def atG (w : World) (x : GC) : Prop := At w x.a1 x.m /\ At w x.a2 x.b /\ At w x.a3 x.o
theorem atG.below {w w' : World} {x : GC} (h : atG w x) (hw : Below w.heap.size w w') : atG w' x := ⟨h.1.below hw, h.2.1.below hw, h.2.2.below hw⟩
def EachG (w : World) (l : List GC) : Prop := ∀ x ∈ l, atG w x
theorem EachG.below {w w' : World} {l : List GC} (h : EachG w l) (hw : Below w.heap.size w w') : EachG w' l := fun x hx => (h x hx).below hw
def grpP (w : World) (x : GC) (S : Nat -> Prop) : Prop :=
  ∃ S1 S2 S3 : Nat -> Prop, (∀ y, S1 y -> S y) /\ (∀ y, S2 y -> S y) /\ (∀ y, S3 y -> S y) /\ (∀ y, S1 y -> ¬ S2 y) /\ (∀ y, S1 y -> ¬ S3 y) /\ (∀ y, S2 y -> ¬ S3 y) /\ Sub w x.a1 x.m S1 /\ Sub w x.a2 x.b S2 /\ Sub w x.a3 x.o S3
theorem Qa9 : Firm grpP := fun w w' x S T ⟨S1, S2, S3, i1, i2, i3, d1, d2, d3, s1, s2, s3⟩ k hd =>
 ⟨S1, S2, S3, i1, i2, i3, d1, d2, d3, s1.offp k (fun y hy => hd y (i1 y hy)), s2.offp k (fun y hy => hd y (i2 y hy)), s3.offp k (fun y hy => hd y (i3 y hy))⟩
theorem grpP_at {w : World} {x : GC} {S : Nat -> Prop} (h : grpP w x S) : atG w x := by
 obtain ⟨S1, S2, S3, i1, i2, i3, d1, d2, d3, s1, s2, s3⟩ := h
 exact ⟨s1.at, s2.at, s3.at⟩
theorem grpP_each {S : Nat -> Prop} {w : World} {a : Option Addr} {l : List GC} (h : Own grpP w a l S) : EachG w l := h.each (fun x S hx => grpP_at hx)
theorem In.getGC {w : World} {b o : Nat} {l : List GC} (h : In w b o l) (i : Nat) (hi : i < l.length) :
 w.cell? ⟨b, o + i * 4, none⟩ = some (.int .i64 l[i].gen) /\ w.cell? ⟨b, o + i * 4 + 1, none⟩ = some (.slice l[i].a1 l[i].m.length l[i].c1) /\ w.cell? ⟨b, o + i * 4 + 2, none⟩ = some (.slice l[i].a2 l[i].b.length l[i].c2) /\ w.cell? ⟨b, o + i * 4 + 3, none⟩ = some (.slice l[i].a3 l[i].o.length l[i].c3) :=
 ⟨h.cell i hi (f := 0) rfl, h.cell i hi (f := 1) rfl, h.cell i hi (f := 2) rfl, h.cell i hi (f := 3) rfl⟩
theorem infoGC : (Tryz.prog.info? 206).map (fun i => (i.zero, i.size, i.bytes)) = some (some (.agg #[.int .i64 0, .slice none 0 0, .slice none 0 0, .slice none 0 0]), 4, 80) := by kernel_rfl
def szGC (x : GC) : Nat := x.m.length + x.b.length + x.o.length
theorem Qgd (A : Option Addr) (cap : Nat) (l : List GC) (hl : l.length <= 9223372036854775807) (hr : ∀ x ∈ l, x.right) (left : Int) (h0 : 0 <= left) (h1 : left <= 1048576) (w : World) (hA : At w A l) (hE : EachG w l) :
 Calls Tryz.prog 97 #[.slice A l.length cap, .int .i64 left] w fun e w' => (∃ r : Int, e = .returned (.int .i64 r) /\ (r < 0 ∨ (0 <= r /\ r = left - (l.length : Int) - (Qah szGC l : Int)))) /\ Below w.heap.size w w' := by
 have HA := hidP hA
 have Hr := hidP hr
 have HE := hidP hE
 clear hA hr hE
 by_cases h : left < (l.length : Int)
 . have g : left - (l.length : Int) < 0 := by omega
   go_enter Tryz.func97, Tryz.ntmps97
   go_wp2
   go_ret
   exact ⟨⟨-1, rfl, .inl (by omega)⟩, Below.refl _ _⟩
 . have g : ¬ left - (l.length : Int) < 0 := by omega
   go_enter Tryz.func97, Tryz.ntmps97
   go_wp2
   go_loopw [1, 5] (fun q i w' => ∃ (n : Nat) (z : Int), i = .int .i64 (n : Int) /\ q = .int .i64 z /\ n <= l.length /\ 0 <= z /\ z <= 1048576 /\ Hid (z = left - (l.length : Int) - (Qah szGC (l.take n) : Int)) /\ Below w.heap.size w w') (fun _ i _ => l.length - (intOf i).toNat)
   case atStart => exact ⟨0, _, rfl, rfl, by omega, by omega, by omega, by simp [Hid, Qah], Below.refl _ _⟩
   case round =>
    obtain ⟨n, z, rfl, rfl, hn, hz0, hz1, hz, hbl⟩ := hrel
    by_cases hlt : n < l.length
    . obtain ⟨b, o, rfl, hbs, hIn⟩ : ∃ b o, A = some ⟨b, o, none⟩ /\ b < w.heap.size /\ In w b o l := by
       rcases HA.out with h | h
       . subst h; simp at hlt
       . exact h
      obtain ⟨c0, c1, c2, c3⟩ := (hIn.below hbs hbl).getGC n hlt
      have hms := hidP (Hr.out _ (List.getElem_mem hlt))
      have hsn := hidP (Qa4 szGC l n hlt)
      by_cases hs : z < ((l[n].m.length + l[n].b.length + l[n].o.length : Nat) : Int)
      . go_wp2_with fail
        refine (Qdt _ _ _ _ _ _ _ _ _ _ hms.out.2.1.1 hms.out.2.1.2.1 hms.out.2.1.2.2 z hz0 hz1 _).mono ?_
        rw [if_pos hs]
        rintro e w1 ⟨rfl, g1⟩
        go_wp2
        go_ret
        exact ⟨⟨-1, rfl, .inl (by omega)⟩, via0 g1 hbl⟩
      . obtain ⟨r, hr⟩ : ∃ r : Int, r = z - ((l[n].m.length + l[n].b.length + l[n].o.length : Nat) : Int) := ⟨_, rfl⟩
        have hp : ¬ r < 0 := by omega
        have HS := hidP hs
        have HR1 := hidP hr
        clear hr hs
        go_wp2_with fail
        refine (Qdt _ _ _ _ _ _ _ _ _ _ hms.out.2.1.1 hms.out.2.1.2.1 hms.out.2.1.2.2 z hz0 hz1 _).mono ?_
        rw [if_neg (by have := HS.out; omega), ← HR1.out]
        rintro e w1 ⟨rfl, g1⟩
        go_wp2
        have hz' := hz.out
        have hsn' := hsn.out
        have hr' := HR1.out
        exact ⟨⟨n + 1, r, by go_num, rfl, by omega, by omega, by omega, by show _ = _; rw [hsn', hr', hz']; simp only [szGC]; omega, via0 g1 hbl⟩, by simp [intOf]; omega⟩
    . have e : l.take n = l := List.take_of_length_le (by omega)
      go_wp2
      go_ret
      have hz' := hz.out
      rw [e] at hz'
      exact ⟨⟨z, rfl, .inr ⟨hz0, hz'⟩⟩, hbl⟩
theorem three_P {n : Nat} {w : World} {x y z : Nat} {m b o : List Int} {gen : Int} {c1 c2 c3 : Nat} (h : Three n w x y z m b o) : grpP w ⟨gen, some ⟨x, 0, none⟩, c1, m, some ⟨y, 0, none⟩, c2, b, some ⟨z, 0, none⟩, c3, o⟩ (fun i => i = x ∨ i = y ∨ i = z) := by
 have h2 := h.xy; have h3 := h.yz; have h4 := h.zs
 exact ⟨fun i => i = x, fun i => i = y, fun i => i = z, fun _ e => .inl e, fun _ e => .inr (.inl e), fun _ e => .inr (.inr e), fun _ e e' => by omega, fun _ e e' => by omega, fun _ e e' => by omega,
  .inr ⟨x, 0, rfl, rfl, by omega, h.im, h.tm⟩, .inr ⟨y, 0, rfl, rfl, by omega, h.ib, h.tb⟩, .inr ⟨z, 0, rfl, rfl, h.zs, h.io, h.to⟩⟩
theorem Qf8 (A : Option Addr) (cap : Nat) (l : List GC) (hl : l.length <= 1048576) (hr : ∀ x ∈ l, x.m.length <= 1048576 /\ x.b.length <= 1048576 /\ x.o.length <= 1048576) (w : World) (hA : At w A l) (hE : EachG w l) :
 Calls Tryz.prog 108 #[.slice A l.length cap] w fun e w' => e = .returned (.slice (some ⟨w.heap.size, 0, none⟩) l.length l.length) /\ Below w.heap.size w w' /\ ∃ l', Grow grpP w' w.heap.size l.length l' /\ l'.map GC.p = l.map GC.p := by
 have HA := hidP hA
 have HE := hidP hE
 have Hr := hidP hr
 clear hA hE hr
 have hmk := Qay (P := Tryz.prog) Tryz.underlying53 infoGC (by omega) l.length hl
 go_enter Tryz.func108, Tryz.ntmps108
 go_wp2
 go_loopw [4] (fun i w' => ∃ (n : Nat) (pre : List GC), i = .int .i64 (n : Int) /\ n <= l.length /\ Below w.heap.size w w' /\ w.heap.size < w'.heap.size /\ Hid (pre.length = n) /\ Hid (Grow grpP w' w.heap.size l.length pre) /\ Hid (pre.map GC.p = (l.take n).map GC.p)) (fun i _ => l.length - (intOf i).toNat)
 case atStart => exact ⟨0, [], rfl, by omega, by repeat (first | exact Below.refl _ _ | assumption | refine via0 (by assumption) ?_ | refine Below.drew ?_ | refine Qaa ?_ _), by simp, rfl, Grow.start (by simp) (Qal w _ _ _ _), by simp [Hid]⟩
 case round =>
  obtain ⟨n, pre, rfl, hn, hbl, hsz, hpl, hgr, hsame⟩ := hrel
  by_cases hlt : n < l.length
  . obtain ⟨b, o, rfl, hbs, hIn⟩ : ∃ b o, A = some ⟨b, o, none⟩ /\ b < w.heap.size /\ In w b o l := by
     rcases HA.out with h | h
     . subst h; simp at hlt
     . exact h
    obtain ⟨c0, c1, c2, c3⟩ := (hIn.below hbs hbl).getGC n hlt
    have hms := Hr.out _ (List.getElem_mem hlt)
    have hat := hidP ((HE.out _ (List.getElem_mem hlt)).below hbl)
    obtain ⟨⟨v0, d0⟩, f0⟩ := Qab (f := 0) hgr.out.th hlt (by decide)
    obtain ⟨⟨v1, d1⟩, f1⟩ := Qab (f := 1) hgr.out.th hlt (by decide)
    obtain ⟨⟨v2, d2⟩, f2⟩ := Qab (f := 2) hgr.out.th hlt (by decide)
    obtain ⟨⟨v3, d3⟩, f3⟩ := Qab (f := 3) hgr.out.th hlt (by decide)
    simp only [Nat.zero_add, Nat.add_zero, show Cel.k GC = 4 from rfl] at d0 f0 d1 f1 d2 f2 d3 f3
    go_wp2_with (go_at_call 138; refine (Qhn _ _ _ _ _ _ _ _ _ _ hms.1 hms.2.1 hms.2.2 _ hat.out.1 hat.out.2.1 hat.out.2.2).mono ?_; rintro e w1 ⟨bx, by1, bz, rfl, g1, h3⟩; obtain ⟨k1, m1⟩ := Qaf g1; have s1 := g1.size; have H3 := hidP h3; clear h3)
    have hpl' := hpl.out
    have t3 := H3.out
    have hst := hgr.out.snoc Qa9 (by omega) g1 (y := (⟨l[n].gen, some ⟨bx, 0, none⟩, l[n].m.length, l[n].m, some ⟨by1, 0, none⟩, l[n].b.length, l[n].b, some ⟨bz, 0, none⟩, l[n].o.length, l[n].o⟩ : GC)) (S := fun x => x = bx ∨ x = by1 ∨ x = bz) (three_P H3.out) (fun x hx => by have h1 := t3.nx; have h2 := t3.xy; have h3 := t3.yz; have h4 := t3.zs; rcases hx with rfl | rfl | rfl<;>exact ⟨by omega, by omega⟩)
    rw [hpl'] at hst
    refine ⟨⟨n + 1, _, by go_num, by omega, ?_, by simp; omega, ?_, hst, ?_⟩, by simp [intOf]; omega⟩
    . exact (((((via0 g1 hbl).setCell (Nat.le_refl _) _).setCell (Nat.le_refl _) _).setCell (Nat.le_refl _) _).setCell (Nat.le_refl _) _)
    . show _ = _; simp [hpl']
    . show _ = _
      rw [List.map_append, hsame.out, List.take_succ_eq_append_getElem hlt, List.map_append]
      rfl
  . have e : l.take n = l := List.take_of_length_le (by omega)
    go_wp2
    go_ret
    exact ⟨rfl, hbl, pre, hgr.out, by rw [hsame.out, e]⟩
theorem Qfu (A A' : Option Addr) (cap cap' : Nat) (l l' : List GC) (hl : l.length <= 9223372036854775807) (hr : ∀ x ∈ l, x.m.length <= 9223372036854775807 /\ x.b.length <= 9223372036854775807 /\ x.o.length <= 9223372036854775807) (hsame : l'.map GC.p = l.map GC.p) (w : World) (hA : At w A l) (hE : EachG w l) (hA' : At w A' l') (hE' : EachG w l') :
 Calls Tryz.prog 127 #[.slice A l.length cap, .slice A' l.length cap'] w fun e w' => e = .returned (.bool true) /\ Below w.heap.size w w' := by
 have HA := hidP hA
 have HE := hidP hE
 have HA' := hidP hA'
 have HE' := hidP hE'
 have Hr := hidP hr
 have HS := hidP hsame
 have HLL : Hid (l'.length = l.length) := by have := congrArg List.length hsame; show _ = _; simpa using this
 clear hA hE hA' hE' hr hsame
 go_enter Tryz.func127, Tryz.ntmps127
 go_wp2
 go_loopw [5] (fun i w' => ∃ (n : Nat), i = .int .i64 (n : Int) /\ n <= l.length /\ Below w.heap.size w w') (fun i _ => l.length - (intOf i).toNat)
 case atStart => exact ⟨0, rfl, by omega, Below.refl _ _⟩
 case round =>
  obtain ⟨n, rfl, hn, hbl⟩ := hrel
  by_cases hlt : n < l.length
  . have hll := HLL.out
    obtain ⟨b, o, rfl, hbs, hin⟩ : ∃ b o, A = some ⟨b, o, none⟩ /\ b < w.heap.size /\ In w b o l := by
     rcases HA.out with h | h
     . subst h; simp at hlt
     . exact h
    obtain ⟨b', o', rfl, hbs', hin'⟩ : ∃ b o, A' = some ⟨b, o, none⟩ /\ b < w.heap.size /\ In w b o l' := by
     rcases HA'.out with h | h
     . subst h; simp at hll; omega
     . exact h
    have hp : (l'[n]'(by omega)).p = l[n].p := by
     have h1 : (l'.map GC.p)[n]'(by simp; omega) = (l.map GC.p)[n]'(by simpa using hlt) := by simp only [HS.out]
     simpa using h1
    obtain ⟨c0, c1, c2, c3⟩ := (hin.below hbs hbl).getGC n hlt
    obtain ⟨d0, d1, d2, d3⟩ := (hin'.below hbs' hbl).getGC n (by omega)
    have hat := HE.out _ (List.getElem_mem hlt)
    have hat' := HE'.out _ (List.getElem_mem (show n < l'.length by omega))
    have hms := Hr.out _ (List.getElem_mem hlt)
    generalize l'[n]'(by omega) = y at hp d0 d1 d2 d3 hat'
    generalize l[n] = x at hp c0 c1 c2 c3 hat hms
    obtain ⟨yg, y1, yc1, ym, y2, yc2, yb, y3, yc3, yo⟩ := y
    obtain ⟨xg, x1, xc1, xm, x2, xc2, xb, x3, xc3, xo⟩ := x
    simp only [GC.p, PG.mk.injEq] at hp
    obtain ⟨rfl, rfl, rfl, rfl⟩ := hp
    simp only at c0 c1 c2 c3 d0 d1 d2 d3 hms
    have Hat := hidP (hat.below hbl)
    have Hat' := hidP (hat'.below hbl)
    clear hat hat' hll
    have hb1 : b < wr.heap.size := Nat.lt_of_lt_of_le hbs hbl.size
    have hb2 : b' < wr.heap.size := Nat.lt_of_lt_of_le hbs' hbl.size
    have hi0 : (0 : Int) <= (n : Int) := by omega
    have hi1 : (n : Int) < (l.length : Int) := by omega
    go_wp2
    go_region_held3 (fun w' => w'.cell? ⟨b, o + n * 4, none⟩ = some (.int .i64 yg) /\ w'.cell? ⟨b, o + n * 4 + 1, none⟩ = some (.slice x1 ym.length xc1) /\ w'.cell? ⟨b, o + n * 4 + 2, none⟩ = some (.slice x2 yb.length xc2) /\ w'.cell? ⟨b, o + n * 4 + 3, none⟩ = some (.slice x3 yo.length xc3) /\
     w'.cell? ⟨b', o' + n * 4, none⟩ = some (.int .i64 yg) /\ w'.cell? ⟨b', o' + n * 4 + 1, none⟩ = some (.slice y1 ym.length yc1) /\ w'.cell? ⟨b', o' + n * 4 + 2, none⟩ = some (.slice y2 yb.length yc2) /\ w'.cell? ⟨b', o' + n * 4 + 3, none⟩ = some (.slice y3 yo.length yc3) /\ wr.heap.size <= w'.heap.size)
     (first | (go_split_ands; refine ⟨?_, ?_, ?_, ?_, ?_, ?_, ?_, ?_, ?_⟩<;>first | assumption | exact (k1 _ _ hb1).trans (by assumption) | exact (k1 _ _ hb2).trans (by assumption) | exact s1 | (simp; done)) | go_keep)
     (first
      | (go_at_call 148; refine (Qg8 _ _ _ _ _ _ _ _ _ _ _ _ _ ym yb yo hms.1 hms.2.1 hms.2.2 _ (Hat.out.1.below (Below.drew (Below.refl _ _))) (Hat.out.2.1.below (Below.drew (Below.refl _ _))) (Hat.out.2.2.below (Below.drew (Below.refl _ _))) (Hat'.out.1.below (Below.drew (Below.refl _ _))) (Hat'.out.2.1.below (Below.drew (Below.refl _ _))) (Hat'.out.2.2.below (Below.drew (Below.refl _ _)))).mono ?_; rintro e w1 ⟨rfl, g1⟩; obtain ⟨k1, m1⟩ := Qaf g1; have s1 := g1.size))
    all_goals
     go_wp2
     exact ⟨⟨n + 1, by go_num, by omega, via0 g1 hbl.drew⟩, by simp [intOf]; omega⟩
  . go_wp2
    go_ret
    exact ⟨rfl, hbl⟩
def cG (x : GC) : Nat := 1 + x.m.length + x.b.length + x.o.length
theorem openGC {H : Type} {enc : TypeId × Value -> H} {w : World} {base n : Nat} {spare : Nat -> Bool} {held : Bool} {a : Addr} {cs : List Value} {y : DataW H × List MemPlace}
 (h1 : w.cells? base a 4 = some cs) (h2 : DataW.trod enc Tryz.prog w base spare held n 245 cs = some y) :
 ∃ x : GC, (x.right /\ atG w x) /\ a.spot = none /\ a.block < w.heap.size /\ ∀ j v, (Cel.cs x)[j]? = some v -> w.cell? ⟨a.block, a.off + j, none⟩ = some v := by
 obtain ⟨_, hlen, hc⟩ := World.cells?_some h1
 match cs, hlen with
 | [c0, c1, c2, c3], _ =>
  obtain ⟨m, hf⟩ := Qa0 Tryz.underlying245 (by kernel_rfl) h2
  obtain ⟨y0, g0⟩ := hf 0 _ rfl _ rfl
  obtain ⟨y1, g1⟩ := hf 1 _ rfl _ rfl
  obtain ⟨y2, g2⟩ := hf 2 _ rfl _ rfl
  obtain ⟨y3, g3⟩ := hf 3 _ rfl _ rfl
  obtain ⟨gen, e0, _, w0⟩ := DataW.trod_int Tryz.underlying3 g0
  simp at e0
  subst e0
  obtain ⟨A, ca, ms, rfl, p1, p2, p3⟩ := Qbv g1
  obtain ⟨B, cb, bs, rfl, b1, b2, b3⟩ := Qbv g2
  obtain ⟨C, cc, os, rfl, o1, o2, o3⟩ := Qbv g3
  have q0 := hc 0 (by omega)
  have hsp : a.spot = none := by
   cases hs : a.spot with
   | none => rfl
   | some s => exfalso; simp [Addr.add, World.cell?, hs] at q0; split at q0<;>simp at q0
  have hlt : a.block < w.heap.size := by
   rw [show a.add 0 = a from rfl] at q0
   unfold World.cell? at q0
   cases hh : w.heap[a.block]? with
   | none => simp [hh] at q0
   | some ob => exact (Array.getElem?_eq_some_iff.1 hh).1
  refine ⟨⟨gen, A, ca, ms, B, cb, bs, C, cc, os⟩, ⟨⟨Qaq w0, ⟨p1, b1, o1⟩, p2, b2, o2⟩, p3, b3, o3⟩, hsp, hlt, ?_⟩
  intro j v hv
  have hj : j < 4 := (List.getElem?_eq_some_iff.1 hv).1
  have q := hc j hj
  have e : a.add j = ⟨a.block, a.off + j, none⟩ := by
   obtain ⟨b, o, s⟩ := a
   simp only at hsp
   subst hsp
   exact Addr.add_mid b o j
  rw [e] at q
  rw [q]
  exact hv
theorem Qe2 {H : Type} {enc : TypeId × Value -> H} {W : World} {base n : Nat} {spare : Nat -> Bool} {held : Bool} {c : Value} {y : DataW H × List MemPlace}
 (g : DataW.trod enc Tryz.prog W base spare held n 89 [c] = some y) :
 ∃ (A : Option Addr) (cap : Nat) (l : List GC), c = .slice A l.length cap /\ l.length <= 9223372036854775807 /\ (∀ x ∈ l, x.right) /\ At W A l /\ EachG W l := by
 rcases open_slice Tryz.underlying89 g with ⟨e2, _⟩ | ⟨a, len, cap, m, n', D, Pl, e2, _, hl, hm, hmm, _, hx⟩
 . simp at e2
   subst e2
   exact ⟨none, 0, [], rfl, by simp, by simp, .inl rfl, by simp [EachG]⟩
 . simp at e2
   subst e2
   have hle : len <= m := by rw [hmm]; split<;>omega
   rw [cellsGroup] at hx
   obtain ⟨X, hX⟩ := choose_lt (α := GC) (p := fun i x => (x.right /\ atG W x) /\ (a.add (i * 4)).spot = none /\ (a.add (i * 4)).block < W.heap.size /\ ∀ j v, (Cel.cs x)[j]? = some v -> W.cell? ⟨(a.add (i * 4)).block, (a.add (i * 4)).off + j, none⟩ = some v)
    (n := len) (fun i hi => by obtain ⟨cs', h1, h2⟩ := hx i (by omega); exact openGC h1 h2)
   obtain ⟨l, rfl, hR, hat⟩ := Qc2 (α := GC) (by decide) (R := fun x => x.right /\ atG W x) hX
   exact ⟨some a, cap, l, rfl, by simp [maxLen] at hm ⊢; omega, fun x hx => (hR x hx).1, hat, fun x hx => (hR x hx).2⟩
end Go.Proofs.YtbcbdhjeebcleaaGreatDoor.Gen
namespace Go.Proofs.YtbcbdhjeebcleaaGreatDoor.Gen
open ChangeShapes WideShapes ChangeAt RowKit Joins Deep Base
def makP (w : World) (x : MC) (S : Nat -> Prop) : Prop := Sub w x.A x.ms S
theorem Qax : Firm makP := fun w w' x S T h k hd => Sub.offp h k hd
theorem makP_each {S : Nat -> Prop} {w : World} {a : Option Addr} {l : List MC} (h : Own makP w a l S) : Each w l := h.each (fun x S hx => Sub.at hx)
theorem Qfb (A : Option Addr) (cap : Nat) (l : List MC) (hl : l.length <= 1048576) (hr : ∀ x ∈ l, x.ms.length <= 1048576) (w : World) (hA : At w A l) (hE : Each w l) :
 Calls Tryz.prog 107 #[.slice A l.length cap] w fun e w' => e = .returned (.slice (some ⟨w.heap.size, 0, none⟩) l.length l.length) /\ Below w.heap.size w w' /\ ∃ l', Grow makP w' w.heap.size l.length l' /\ l'.map MC.p = l.map MC.p := by
 have HA := hidP hA
 have HE := hidP hE
 have Hr := hidP hr
 clear hA hE hr
 have hmk := Qay (P := Tryz.prog) Tryz.underlying52 infoMC (by omega) l.length hl
 go_enter Tryz.func107, Tryz.ntmps107
 go_wp2
 go_loopw [4] (fun i w' => ∃ (n : Nat) (pre : List MC), i = .int .i64 (n : Int) /\ n <= l.length /\ Below w.heap.size w w' /\ w.heap.size < w'.heap.size /\ Hid (pre.length = n) /\ Hid (Grow makP w' w.heap.size l.length pre) /\ Hid (pre.map MC.p = (l.take n).map MC.p)) (fun i _ => l.length - (intOf i).toNat)
 case atStart => exact ⟨0, [], rfl, by omega, by repeat (first | exact Below.refl _ _ | assumption | refine via0 (by assumption) ?_ | refine Below.drew ?_ | refine Qaa ?_ _), by simp, rfl, Grow.start (by simp) (Qal w _ _ _ _), by simp [Hid]⟩
 case round =>
  obtain ⟨n, pre, rfl, hn, hbl, hsz, hpl, hgr, hsame⟩ := hrel
  by_cases hlt : n < l.length
  . obtain ⟨b, o, rfl, hbs, hIn⟩ : ∃ b o, A = some ⟨b, o, none⟩ /\ b < w.heap.size /\ In w b o l := by
     rcases HA.out with h | h
     . subst h; simp at hlt
     . exact h
    obtain ⟨c0, c1, c2, c3, c4⟩ := (hIn.below hbs hbl).getMC n hlt
    have hms := Hr.out _ (List.getElem_mem hlt)
    have hat := hidP ((HE.out _ (List.getElem_mem hlt)).below hbl)
    obtain ⟨⟨v0, d0⟩, f0⟩ := Qab (f := 0) hgr.out.th hlt (by decide)
    obtain ⟨⟨v1, d1⟩, f1⟩ := Qab (f := 1) hgr.out.th hlt (by decide)
    obtain ⟨⟨v2, d2⟩, f2⟩ := Qab (f := 2) hgr.out.th hlt (by decide)
    obtain ⟨⟨v3, d3⟩, f3⟩ := Qab (f := 3) hgr.out.th hlt (by decide)
    obtain ⟨⟨v4, d4⟩, f4⟩ := Qab (f := 4) hgr.out.th hlt (by decide)
    simp only [Nat.zero_add, Nat.add_zero, show Cel.k MC = 5 from rfl] at d0 f0 d1 f1 d2 f2 d3 f3 d4 f4
    go_wp2_with (go_at_call 137; refine (Qhk _ _ _ _ _ _ _ hms _ hat.out).mono ?_; rintro e w1 ⟨bx, rfl, g1, hbx, hbx', hix, htx⟩; obtain ⟨k1, m1⟩ := Qaf g1; have s1 := g1.size; have hix := hidP hix; have htx := hidP htx)
    have hpl' := hpl.out
    have hst := hgr.out.snoc Qax (by omega) g1 (y := (⟨l[n].row, l[n].who, l[n].epoch, l[n].last, some ⟨bx, 0, none⟩, l[n].ms.length, l[n].ms⟩ : MC)) (S := fun x => x = bx) (.inr ⟨bx, 0, rfl, rfl, hbx', hix.out, htx.out⟩) (fun x hx => by subst hx; exact ⟨hbx, hbx'⟩)
    rw [hpl'] at hst
    refine ⟨⟨n + 1, _, by go_num, by omega, ?_, by simp; omega, ?_, hst, ?_⟩, by simp [intOf]; omega⟩
    . exact ((((((via0 g1 hbl).setCell (Nat.le_refl _) _).setCell (Nat.le_refl _) _).setCell (Nat.le_refl _) _).setCell (Nat.le_refl _) _).setCell (Nat.le_refl _) _)
    . show _ = _; simp [hpl']
    . show _ = _
      rw [List.map_append, hsame.out, List.take_succ_eq_append_getElem hlt, List.map_append]
      rfl
  . have e : l.take n = l := List.take_of_length_le (by omega)
    go_wp2
    go_ret
    exact ⟨rfl, hbl, pre, hgr.out, by rw [hsame.out, e]⟩
def cM (x : MC) : Nat := 4 + x.ms.length * 2
end Go.Proofs.YtbcbdhjeebcleaaGreatDoor.Gen
namespace Go.Proofs.YtbcbdhjeebcleaaGreatDoor.Gen
open ChangeShapes WideShapes ChangeAt RowKit Joins Deep Base
theorem Blk.row6 {W : World} {B : Nat} {t : TypeId} {a b c d e f : Value} (h : Blk W B t #[a, b, c, d, e, f]) : W.cell? ⟨B, 0, none⟩ = some a /\ W.cell? ⟨B, 1, none⟩ = some b /\ W.cell? ⟨B, 2, none⟩ = some c /\ W.cell? ⟨B, 3, none⟩ = some d /\ W.cell? ⟨B, 4, none⟩ = some e /\ W.cell? ⟨B, 5, none⟩ = some f := ⟨h.cell (by rfl), h.cell (by rfl), h.cell (by rfl), h.cell (by rfl), h.cell (by rfl), h.cell (by rfl)⟩
structure KC where
  rA : Option Addr
  rc : Nat
  rs : List RC
  mA : Option Addr
  mc : Nat
  ms : List MC
  gA : Option Addr
  gc : Nat
  gs : List GC
  time : Int
  dA : Option Addr
  dc : Nat
  ds : List Int
  lA : Option Addr
  lc : Nat
  ls : List An
structure PK where
  rs : List PR
  ms : List PM
  gs : List PG
  time : Int
  ds : List Int
  ls : List An
def KC.p (x : KC) : PK := ⟨x.rs.map RC.p, x.ms.map MC.p, x.gs.map GC.p, x.time, x.ds, x.ls⟩
def KC.cells (x : KC) : Array Value := #[.slice x.rA x.rs.length x.rc, .slice x.mA x.ms.length x.mc, .slice x.gA x.gs.length x.gc, .int .i64 x.time, .slice x.dA x.ds.length x.dc, .slice x.lA x.ls.length x.lc]
theorem KC.p_len {x y : KC} (h : y.p = x.p) : y.rs.length = x.rs.length /\ y.ms.length = x.ms.length /\ y.gs.length = x.gs.length /\ y.time = x.time /\ y.ds = x.ds /\ y.ls = x.ls := by
 simp only [KC.p, PK.mk.injEq] at h
 obtain ⟨h1, h2, h3, h4, h5, h6⟩ := h
 exact ⟨by have := congrArg List.length h1; simpa using this, by have := congrArg List.length h2; simpa using this, by have := congrArg List.length h3; simpa using this, h4, h5, h6⟩
structure KAt (w : World) (x : KC) : Prop where
  ra : At w x.rA x.rs
  re : EachR w x.rs
  ma : At w x.mA x.ms
  me : Each w x.ms
  ga : At w x.gA x.gs
  ge : EachG w x.gs
  da : At w x.dA x.ds
  la : At w x.lA x.ls
theorem KAt.below {w w' : World} {x : KC} (h : KAt w x) (g : Below w.heap.size w w') : KAt w' x :=
 ⟨h.ra.below g, h.re.below g, h.ma.below g, h.me.below g, h.ga.below g, h.ge.below g, h.da.below g, h.la.below g⟩
structure KCol (w : World) (x : KC) (S : Nat -> Prop) (col : Nat -> Nat) : Prop where
  r : Own rowP w x.rA x.rs (fun b => S b /\ col b = 1)
  m : Own makP w x.mA x.ms (fun b => S b /\ col b = 2)
  g : Own grpP w x.gA x.gs (fun b => S b /\ col b = 3)
  d : Sub w x.dA x.ds (fun b => S b /\ col b = 4)
  l : Sub w x.lA x.ls (fun b => S b /\ col b = 5)
def KOwn (w : World) (x : KC) (S : Nat -> Prop) : Prop := ∃ col, KCol w x S col
theorem KCol.at {w : World} {x : KC} {S : Nat -> Prop} {col : Nat -> Nat} (h : KCol w x S col) : KAt w x := ⟨h.r.at, rowP_each h.r, h.m.at, makP_each h.m, h.g.at, grpP_each h.g, h.d.at, h.l.at⟩
theorem KOwn.at {w : World} {x : KC} {S : Nat -> Prop} (h : KOwn w x S) : KAt w x := by obtain ⟨_, h⟩ := h; exact h.at
theorem KCol.offp {w w' : World} {x : KC} {S T : Nat -> Prop} {col : Nat -> Nat} (h : KCol w x S col) (k : Offp T w w') (hd : ∀ b, S b -> ¬ T b) : KCol w' x S col :=
 ⟨h.r.offp Qap k (fun b hb => hd b hb.1), h.m.offp Qax k (fun b hb => hd b hb.1), h.g.offp Qa9 k (fun b hb => hd b hb.1), h.d.offp k (fun b hb => hd b hb.1), h.l.offp k (fun b hb => hd b hb.1)⟩
theorem KOwn.offp {w w' : World} {x : KC} {S T : Nat -> Prop} (h : KOwn w x S) (k : Offp T w w') (hd : ∀ b, S b -> ¬ T b) : KOwn w' x S := by obtain ⟨c, h⟩ := h; exact ⟨c, h.offp k hd⟩
theorem KOwn.mono {w : World} {x : KC} {S T : Nat -> Prop} (h : KOwn w x S) (s : ∀ b, S b -> T b) : KOwn w x T := by
 obtain ⟨c, h⟩ := h
 exact ⟨c, h.r.mono (fun b hb => ⟨s b hb.1, hb.2⟩), h.m.mono (fun b hb => ⟨s b hb.1, hb.2⟩), h.g.mono (fun b hb => ⟨s b hb.1, hb.2⟩), h.d.mono (fun b hb => ⟨s b hb.1, hb.2⟩), h.l.mono (fun b hb => ⟨s b hb.1, hb.2⟩)⟩
structure KFit (x : KC) : Prop where
  rl : x.rs.length <= 1048576
  ml : x.ms.length <= 1048576
  gl : x.gs.length <= 1048576
  dl : x.ds.length <= 1048576
  ll : x.ls.length <= 1048576
  ri : ∀ y ∈ x.rs, y.its.length <= 1048576
  mi : ∀ y ∈ x.ms, y.ms.length <= 1048576
  gi : ∀ y ∈ x.gs, y.m.length <= 1048576 /\ y.b.length <= 1048576 /\ y.o.length <= 1048576
  rc : Qah cR x.rs <= 10000000
  mc : Qah cM x.ms <= 10000000
  gc : Qah cG x.gs <= 10000000
theorem Qh9 (x y : KC) (hf : KFit x) (hp : y.p = x.p) (w : World) (hx : KAt w x) (hy : KAt w y) :
 Calls Tryz.prog 90 #[.agg #[.slice x.rA x.rs.length x.rc, .slice x.mA x.ms.length x.mc, .slice x.gA x.gs.length x.gc, .int .i64 x.time, .slice x.dA x.ds.length x.dc, .slice x.lA x.ls.length x.lc], .agg #[.slice y.rA x.rs.length y.rc, .slice y.mA x.ms.length y.mc, .slice y.gA x.gs.length y.gc, .int .i64 x.time, .slice y.dA x.ds.length y.dc, .slice y.lA x.ls.length y.lc]] w fun e w' => e = .returned (.bool true) /\ Below w.heap.size w w' := by
 have hp' := KC.p_len hp
 have Hp := hidP hp
 have Hl := hidP hp'
 have Hf := hidP hf
 have HX := hidP hx
 have HY := hidP hy
 clear hp hp' hf hx hy
 have E1 : Hid (∀ W : World, Below w.heap.size w W -> Calls Tryz.prog 125 #[.slice x.rA x.rs.length x.rc, .slice y.rA x.rs.length y.rc] W fun e w' => e = .returned (.bool true) /\ Below W.heap.size W w') := fun W g =>
  Qh7 _ _ _ _ x.rs y.rs (by have := Hf.out.rl; omega) (fun z hz => by have := Hf.out.ri z hz; omega) (by have := Hp.out; simp only [KC.p, PK.mk.injEq] at this; exact this.1) W (HX.out.below g).ra (HX.out.below g).re (HY.out.below g).ra (HY.out.below g).re
 have E2 : Hid (∀ W : World, Below w.heap.size w W -> Calls Tryz.prog 126 #[.slice x.mA x.ms.length x.mc, .slice y.mA x.ms.length y.mc] W fun e w' => e = .returned (.bool true) /\ Below W.heap.size W w') := fun W g =>
  Qfs _ _ _ _ x.ms y.ms (by have := Hf.out.ml; omega) (fun z hz => by have := Hf.out.mi z hz; omega) (by have := Hp.out; simp only [KC.p, PK.mk.injEq] at this; exact this.2.1) W (HX.out.below g).ma (HX.out.below g).me (HY.out.below g).ma (HY.out.below g).me
 have E3 : Hid (∀ W : World, Below w.heap.size w W -> Calls Tryz.prog 127 #[.slice x.gA x.gs.length x.gc, .slice y.gA x.gs.length y.gc] W fun e w' => e = .returned (.bool true) /\ Below W.heap.size W w') := fun W g =>
  Qfu _ _ _ _ x.gs y.gs (by have := Hf.out.gl; omega) (fun z hz => by have := Hf.out.gi z hz; omega) (by have := Hp.out; simp only [KC.p, PK.mk.injEq] at this; exact this.2.2.1) W (HX.out.below g).ga (HX.out.below g).ge (HY.out.below g).ga (HY.out.below g).ge
 have E4 : Hid (∀ W : World, Below w.heap.size w W -> Calls Tryz.prog 27 #[.slice x.dA x.ds.length x.dc, .slice y.dA x.ds.length y.dc] W fun e w' => e = .returned (.bool true) /\ Below W.heap.size W w') := fun W g =>
  Qbf _ _ _ _ x.ds (by have := Hf.out.dl; omega) W (HX.out.below g).da (by have h1 := (HY.out.below g).da; rw [Hl.out.2.2.2.2.1] at h1; exact h1)
 have E5 : Hid (∀ W : World, Below w.heap.size w W -> Calls Tryz.prog 128 #[.slice x.lA x.ls.length x.lc, .slice y.lA x.ls.length y.lc] W fun e w' => e = .returned (.bool true) /\ Below W.heap.size W w') := fun W g =>
  Qeo _ _ _ _ x.ls (by have := Hf.out.ll; omega) W (HX.out.below g).la (by have h1 := (HY.out.below g).la; rw [Hl.out.2.2.2.2.2] at h1; exact h1)
 go_enter Tryz.func90, Tryz.ntmps90
 go_wp2_with fail
 have p0 : Blk ((w.alloc (.cells #[.slice x.rA x.rs.length x.rc, .slice x.mA x.ms.length x.mc, .slice x.gA x.gs.length x.gc, .int .i64 x.time, .slice x.dA x.ds.length x.dc, .slice x.lA x.ls.length x.lc] 56)).alloc (.cells #[.slice y.rA x.rs.length y.rc, .slice y.mA x.ms.length y.mc, .slice y.gA x.gs.length y.gc, .int .i64 x.time, .slice y.dA x.ds.length y.dc, .slice y.lA x.ls.length y.lc] 56)) w.heap.size 56 #[.slice x.rA x.rs.length x.rc, .slice x.mA x.ms.length x.mc, .slice x.gA x.gs.length x.gc, .int .i64 x.time, .slice x.dA x.ds.length x.dc, .slice x.lA x.ls.length x.lc] := (Blk.new w _ _).alloc _
 have r0 : Blk ((w.alloc (.cells #[.slice x.rA x.rs.length x.rc, .slice x.mA x.ms.length x.mc, .slice x.gA x.gs.length x.gc, .int .i64 x.time, .slice x.dA x.ds.length x.dc, .slice x.lA x.ls.length x.lc] 56)).alloc (.cells #[.slice y.rA x.rs.length y.rc, .slice y.mA x.ms.length y.mc, .slice y.gA x.gs.length y.gc, .int .i64 x.time, .slice y.dA x.ds.length y.dc, .slice y.lA x.ls.length y.lc] 56)) (w.heap.size + 1) 56 #[.slice y.rA x.rs.length y.rc, .slice y.mA x.ms.length y.mc, .slice y.gA x.gs.length y.gc, .int .i64 x.time, .slice y.dA x.ds.length y.dc, .slice y.lA x.ls.length y.lc] := by have := Blk.new (w.alloc (.cells #[.slice x.rA x.rs.length x.rc, .slice x.mA x.ms.length x.mc, .slice x.gA x.gs.length x.gc, .int .i64 x.time, .slice x.dA x.ds.length x.dc, .slice x.lA x.ls.length x.lc] 56)) 56 #[.slice y.rA x.rs.length y.rc, .slice y.mA x.ms.length y.mc, .slice y.gA x.gs.length y.gc, .int .i64 x.time, .slice y.dA x.ds.length y.dc, .slice y.lA x.ls.length y.lc]; simpa using this
 have B0 : Below w.heap.size w ((w.alloc (.cells #[.slice x.rA x.rs.length x.rc, .slice x.mA x.ms.length x.mc, .slice x.gA x.gs.length x.gc, .int .i64 x.time, .slice x.dA x.ds.length x.dc, .slice x.lA x.ls.length x.lc] 56)).alloc (.cells #[.slice y.rA x.rs.length y.rc, .slice y.mA x.ms.length y.mc, .slice y.gA x.gs.length y.gc, .int .i64 x.time, .slice y.dA x.ds.length y.dc, .slice y.lA x.ls.length y.lc] 56)) := by repeat (first | exact Below.refl _ _ | assumption | refine via0 (by assumption) ?_ | refine Below.drew ?_ | refine Qaa ?_ _)
 refine (E1.out _ B0).mono ?_
 rintro e w1 ⟨rfl, g1⟩
 have p1 := p0.below g1 p0.lt
 have r1 := r0.below g1 r0.lt
 have B1 : Below w.heap.size w w1 := via0 g1 B0
 obtain ⟨u0, u1, u2, u3, u4, u5⟩ := p1.row6
 obtain ⟨v0, v1, v2, v3, v4, v5⟩ := r1.row6
 have q1 := p1.lt
 have t1 := r1.lt
 clear p0 r0 B0 g1
 go_wp2_with fail
 refine (E2.out _ B1).mono ?_
 rintro e w2 ⟨rfl, g2⟩
 have p2 := p1.below g2 p1.lt
 have r2 := r1.below g2 r1.lt
 have B2 : Below w.heap.size w w2 := via0 g2 B1
 clear u0 u1 u2 u3 u4 u5 v0 v1 v2 v3 v4 v5 p1 r1 B1 g2 q1 t1
 obtain ⟨u0, u1, u2, u3, u4, u5⟩ := p2.row6
 obtain ⟨v0, v1, v2, v3, v4, v5⟩ := r2.row6
 have q1 := p2.lt
 have t1 := r2.lt
 go_wp2_with fail
 refine (E3.out _ B2).mono ?_
 rintro e w3 ⟨rfl, g3⟩
 have p3 := p2.below g3 p2.lt
 have r3 := r2.below g3 r2.lt
 have B3 : Below w.heap.size w w3 := via0 g3 B2
 clear u0 u1 u2 u3 u4 u5 v0 v1 v2 v3 v4 v5 p2 r2 B2 g3 q1 t1
 obtain ⟨u0, u1, u2, u3, u4, u5⟩ := p3.row6
 obtain ⟨v0, v1, v2, v3, v4, v5⟩ := r3.row6
 have q1 := p3.lt
 have t1 := r3.lt
 go_wp2_with fail
 refine (E4.out _ B3).mono ?_
 rintro e w4 ⟨rfl, g4⟩
 have p4 := p3.below g4 p3.lt
 have r4 := r3.below g4 r3.lt
 have B4 : Below w.heap.size w w4 := via0 g4 B3
 clear u0 u1 u2 u3 u4 u5 v0 v1 v2 v3 v4 v5 p3 r3 B3 g4 q1 t1
 obtain ⟨u0, u1, u2, u3, u4, u5⟩ := p4.row6
 obtain ⟨v0, v1, v2, v3, v4, v5⟩ := r4.row6
 have q1 := p4.lt
 have t1 := r4.lt
 go_wp2_with fail
 refine (E5.out _ B4).mono ?_
 rintro e w5 ⟨rfl, g5⟩
 have B5 : Below w.heap.size w w5 := via0 g5 B4
 go_wp2
 go_ret
 exact ⟨rfl, B5⟩
def kct (x : KC) : Nat := Qah cR x.rs + Qah cM x.ms + Qah cG x.gs + x.ds.length + x.ls.length * 4
end Go.Proofs.YtbcbdhjeebcleaaGreatDoor.Gen
