/-
  Lists of groups, each with its three lists: how they lie, what the laws' to, sz, eq, mark and held functions of them do; the argument opened. No condition but that there are at most 1048576.
-/
import Derived.Test.YtlcjaabnfdnfmaaGreatDoorRowMark
set_option linter.unusedVariables false
set_option linter.unusedSimpArgs false
set_option maxRecDepth 100000
set_option maxHeartbeats 8000000
namespace Go.Proofs.YtlcjaabnfdnfmaaGreatDoor.Gen
open ChangeShapes WideShapes ChangeAt RowKit Joins Deep Base
structure GC where
  gen : Int
  a1 : Option Addr
  c1 : Nat
  m : List Int
  a2 : Option Addr
  c2 : Nat
  b : List Int
  a3 : Option Addr
  c3 : Nat
  o : List Int
instance : Inhabited GC := ⟨⟨0, none, 0, [], none, 0, [], none, 0, []⟩⟩
instance : Cel GC where
  k := 4
  cs x := [.int .i64 x.gen, .slice x.a1 x.m.length x.c1, .slice x.a2 x.b.length x.c2, .slice x.a3 x.o.length x.c3]
  len _ := rfl
  one x u hu := by simp at hu; rcases hu with rfl | rfl | rfl | rfl<;>rfl
structure PG where
  gen : Int
  m : List Int
  b : List Int
  o : List Int
def GC.p (x : GC) : PG := ⟨x.gen, x.m, x.b, x.o⟩
def atG (w : World) (x : GC) : Prop := At w x.a1 x.m /\ At w x.a2 x.b /\ At w x.a3 x.o
theorem atG.below {w w' : World} {x : GC} (h : atG w x) (hw : Below w.heap.size w w') : atG w' x := ⟨h.1.below hw, h.2.1.below hw, h.2.2.below hw⟩
def EachG (w : World) (l : List GC) : Prop := ∀ x ∈ l, atG w x
theorem EachG.below {w w' : World} {l : List GC} (h : EachG w l) (hw : Below w.heap.size w w') : EachG w' l := fun x hx => (h x hx).below hw
def grpP (w : World) (x : GC) (S : Nat -> Prop) : Prop :=
  ∃ S1 S2 S3 : Nat -> Prop, (∀ y, S1 y -> S y) /\ (∀ y, S2 y -> S y) /\ (∀ y, S3 y -> S y) /\ (∀ y, S1 y -> ¬ S2 y) /\ (∀ y, S1 y -> ¬ S3 y) /\ (∀ y, S2 y -> ¬ S3 y) /\ Sub w x.a1 x.m S1 /\ Sub w x.a2 x.b S2 /\ Sub w x.a3 x.o S3
theorem Qar : Firm grpP := fun w w' x S T ⟨S1, S2, S3, i1, i2, i3, d1, d2, d3, s1, s2, s3⟩ k hd =>
 ⟨S1, S2, S3, i1, i2, i3, d1, d2, d3, s1.offp k (fun y hy => hd y (i1 y hy)), s2.offp k (fun y hy => hd y (i2 y hy)), s3.offp k (fun y hy => hd y (i3 y hy))⟩
theorem grpP_at {w : World} {x : GC} {S : Nat -> Prop} (h : grpP w x S) : atG w x := by
 obtain ⟨S1, S2, S3, i1, i2, i3, d1, d2, d3, s1, s2, s3⟩ := h
 exact ⟨s1.at, s2.at, s3.at⟩
theorem grpP_each {S : Nat -> Prop} {w : World} {a : Option Addr} {l : List GC} (h : Own grpP w a l S) : EachG w l := h.each (fun x S hx => grpP_at hx)
theorem In.getGC {w : World} {b o : Nat} {l : List GC} (h : In w b o l) (i : Nat) (hi : i < l.length) :
 w.cell? ⟨b, o + i * 4, none⟩ = some (.int .i64 l[i].gen) /\ w.cell? ⟨b, o + i * 4 + 1, none⟩ = some (.slice l[i].a1 l[i].m.length l[i].c1) /\ w.cell? ⟨b, o + i * 4 + 2, none⟩ = some (.slice l[i].a2 l[i].b.length l[i].c2) /\ w.cell? ⟨b, o + i * 4 + 3, none⟩ = some (.slice l[i].a3 l[i].o.length l[i].c3) :=
 ⟨h.cell i hi (f := 0) rfl, h.cell i hi (f := 1) rfl, h.cell i hi (f := 2) rfl, h.cell i hi (f := 3) rfl⟩
theorem infoGC : (Tryz.prog.info? 75).map (fun i => (i.zero, i.size, i.bytes)) = some (some (.agg #[.int .i64 0, .slice none 0 0, .slice none 0 0, .slice none 0 0]), 4, 80) := by kernel_rfl
theorem Qhf (A A' : Option Addr) (cap cap' : Nat) (l l' : List GC) (hl : l.length <= 9223372036854775807) (hr : ∀ x ∈ l, x.m.length <= 9223372036854775807 /\ x.b.length <= 9223372036854775807 /\ x.o.length <= 9223372036854775807) (hsame : l'.map GC.p = l.map GC.p) (w : World) (hA : At w A l) (hE : EachG w l) (hA' : At w A' l') (hE' : EachG w l') :
 Calls Tryz.prog 59 #[.slice A l.length cap, .slice A' l.length cap'] w fun e w' => e = .returned (.bool true) /\ Below w.heap.size w w' := by
 have HA := hidP hA
 have HE := hidP hE
 have HA' := hidP hA'
 have HE' := hidP hE'
 have Hr := hidP hr
 have HS := hidP hsame
 have HLL : Hid (l'.length = l.length) := by have := congrArg List.length hsame; show _ = _; simpa using this
 clear hA hE hA' hE' hr hsame
 go_enter Tryz.func59, Tryz.ntmps59
 go_wp2
 go_loopw [5] (fun i w' => ∃ (n : Nat), i = .int .i64 (n : Int) /\ n <= l.length /\ Below w.heap.size w w') (fun i _ => l.length - (intOf i).toNat)
 case atStart => exact ⟨0, rfl, by omega, Below.refl _ _⟩
 case round =>
  obtain ⟨n, rfl, hn, hbl⟩ := hrel
  by_cases hlt : n < l.length
  . have hll := HLL.out
    obtain ⟨b, o, rfl, hbs, hin⟩ : ∃ b o, A = some ⟨b, o, none⟩ /\ b < w.heap.size /\ In w b o l := by
     rcases HA.out with h | h
     . subst h; simp at hlt
     . exact h
    obtain ⟨b', o', rfl, hbs', hin'⟩ : ∃ b o, A' = some ⟨b, o, none⟩ /\ b < w.heap.size /\ In w b o l' := by
     rcases HA'.out with h | h
     . subst h; simp at hll; omega
     . exact h
    have hp : (l'[n]'(by omega)).p = l[n].p := by
     have h1 : (l'.map GC.p)[n]'(by simp; omega) = (l.map GC.p)[n]'(by simpa using hlt) := by simp only [HS.out]
     simpa using h1
    obtain ⟨c0, c1, c2, c3⟩ := (hin.below hbs hbl).getGC n hlt
    obtain ⟨d0, d1, d2, d3⟩ := (hin'.below hbs' hbl).getGC n (by omega)
    have hat := HE.out _ (List.getElem_mem hlt)
    have hat' := HE'.out _ (List.getElem_mem (show n < l'.length by omega))
    have hms := Hr.out _ (List.getElem_mem hlt)
    generalize l'[n]'(by omega) = y at hp d0 d1 d2 d3 hat'
    generalize l[n] = x at hp c0 c1 c2 c3 hat hms
    obtain ⟨yg, y1, yc1, ym, y2, yc2, yb, y3, yc3, yo⟩ := y
    obtain ⟨xg, x1, xc1, xm, x2, xc2, xb, x3, xc3, xo⟩ := x
    simp only [GC.p, PG.mk.injEq] at hp
    obtain ⟨rfl, rfl, rfl, rfl⟩ := hp
    simp only at c0 c1 c2 c3 d0 d1 d2 d3 hms
    have Hat := hidP (hat.below hbl)
    have Hat' := hidP (hat'.below hbl)
    clear hat hat' hll
    have hb1 : b < wr.heap.size := Nat.lt_of_lt_of_le hbs hbl.size
    have hb2 : b' < wr.heap.size := Nat.lt_of_lt_of_le hbs' hbl.size
    have hi0 : (0 : Int) <= (n : Int) := by omega
    have hi1 : (n : Int) < (l.length : Int) := by omega
    go_wp2
    go_region_held3 (fun w' => w'.cell? ⟨b, o + n * 4, none⟩ = some (.int .i64 yg) /\ w'.cell? ⟨b, o + n * 4 + 1, none⟩ = some (.slice x1 ym.length xc1) /\ w'.cell? ⟨b, o + n * 4 + 2, none⟩ = some (.slice x2 yb.length xc2) /\ w'.cell? ⟨b, o + n * 4 + 3, none⟩ = some (.slice x3 yo.length xc3) /\
     w'.cell? ⟨b', o' + n * 4, none⟩ = some (.int .i64 yg) /\ w'.cell? ⟨b', o' + n * 4 + 1, none⟩ = some (.slice y1 ym.length yc1) /\ w'.cell? ⟨b', o' + n * 4 + 2, none⟩ = some (.slice y2 yb.length yc2) /\ w'.cell? ⟨b', o' + n * 4 + 3, none⟩ = some (.slice y3 yo.length yc3) /\ wr.heap.size <= w'.heap.size)
     (first | (go_split_ands; refine ⟨?_, ?_, ?_, ?_, ?_, ?_, ?_, ?_, ?_⟩<;>first | assumption | exact (k1 _ _ hb1).trans (by assumption) | exact (k1 _ _ hb2).trans (by assumption) | exact s1 | (simp; done)) | go_keep)
     (first
      | (go_at_call 118; refine (Qjj _ _ _ _ _ _ _ _ _ _ _ _ _ ym yb yo hms.1 hms.2.1 hms.2.2 _ (Hat.out.1.below (Below.drew (Below.refl _ _))) (Hat.out.2.1.below (Below.drew (Below.refl _ _))) (Hat.out.2.2.below (Below.drew (Below.refl _ _))) (Hat'.out.1.below (Below.drew (Below.refl _ _))) (Hat'.out.2.1.below (Below.drew (Below.refl _ _))) (Hat'.out.2.2.below (Below.drew (Below.refl _ _)))).mono ?_; rintro e w1 ⟨rfl, g1⟩; obtain ⟨k1, m1⟩ := Qaj g1; have s1 := g1.size))
    all_goals
     go_wp2
     exact ⟨⟨n + 1, by go_num, by omega, via0 g1 hbl.drew⟩, by simp [intOf]; omega⟩
  . go_wp2
    go_ret
    exact ⟨rfl, hbl⟩
def cG (x : GC) : Nat := 1 + x.m.length + x.b.length + x.o.length
def mG (x : GC) (z : Int) : GC := ⟨z, x.a1, x.c1, Qae x.m.length (z + 1), x.a2, x.c2, Qae x.b.length (z + 1 + x.m.length), x.a3, x.c3, Qae x.o.length (z + 1 + x.m.length + x.b.length)⟩
theorem Qcw (a : Option Addr) (cap : Nat) (l : List Int) (S : Nat -> Prop) (k : Int) (hk : 1 <= k) (hk' : k <= 100000000) (hl : l.length <= 2000000) (w : World) (h : Sub w a l S) :
 Calls Tryz.prog 28 #[.slice a l.length cap, .int .i64 k] w fun e w' => e = .returned (.int .i64 (k + (l.length : Int))) /\ Offp S w w' /\ Sub w' a (Qae l.length k) S := by
 rcases h with rfl | ⟨b, o, rfl, hS, hb, hi, ht⟩
 . refine (Qiv a cap k w).mono ?_
   rintro e w' ⟨rfl, rfl⟩
   exact ⟨by simp, Offp.refl _ _, .inl rfl⟩
 . refine (Qkc b o cap l.length k hk hk' hl w hb ht).mono ?_
   rintro e w' ⟨rfl, ko, hin, hth⟩
   exact ⟨rfl, (Offp.of_only ko).mono (fun x e => e ▸ hS), .inr ⟨b, o, rfl, hS, Nat.lt_of_lt_of_le hb ko.size, hin, by rw [Qan]; exact hth⟩⟩
theorem Qf2 (b o cap : Nat) (l : List GC) (fp : Nat -> Nat -> Prop) (k : Int) (hk : 1 <= k) (hk' : k <= 50000000) (hc : Qac cG l <= 50000000) (hl : l.length <= 1048576) (hs : ∀ x ∈ l, x.m.length <= 1048576 /\ x.b.length <= 1048576 /\ x.o.length <= 1048576) (w : World) (hO : OwnF grpP w b o l fp) :
 Calls Tryz.prog 66 #[.slice (some ⟨b, o, none⟩) l.length cap, .int .i64 k] w fun e w' => e = .returned (.int .i64 (k + (Qac cG l : Int))) /\ Offp (fun x => x = b ∨ ∃ i, fp i x) w w' /\ OwnF grpP w' b o (marked mG cG l k) fp := by
 have HO := hidP hO
 have Hs := hidP hs
 have Hc := hidP hc
 clear hO hs hc
 go_enter Tryz.func66, Tryz.ntmps66
 go_wp2
 go_loopw [1, 5] (fun kk i w' => ∃ (n : Nat) (z : Int), i = .int .i64 (n : Int) /\ kk = .int .i64 z /\ n <= l.length /\ 1 <= z /\ z <= 100000000 /\ Hid (z = k + (Qac cG (l.take n) : Int)) /\ Hid (Offp (fun x => x = b ∨ ∃ i, fp i x) w w') /\ Hid (OwnF grpP w' b o (half mG cG l k n) fp)) (fun _ i _ => l.length - (intOf i).toNat)
 case atStart => exact ⟨0, k, rfl, rfl, by omega, hk, by omega, by simp [Hid, Qac], Offp.refl _ _, by rw [Qdz]; exact HO.out⟩
 case round =>
  obtain ⟨n, z, rfl, rfl, hn, hz1, hz2, hz, hoff, hown⟩ := hrel
  by_cases hlt : n < l.length
  . have hhl := Qc3 mG cG l k n
    have hge := Qeu mG cG l k n hlt (by omega)
    have hit := Hs.out _ (List.getElem_mem hlt)
    obtain ⟨c0, c1, c2, c3⟩ := hown.out.lst.getGC n (by omega)
    have hth := hown.out.th
    rw [hhl] at hth
    obtain ⟨_, f0⟩ := Qaf (f := 0) hth hlt (by decide)
    simp only [Nat.add_zero, show Cel.k GC = 4 from rfl] at f0
    rw [hge] at c0 c1 c2 c3
    have hsu := Qd0 mG cG l k n hlt
    rw [← hz.out] at hsu
    have hcn : Qac cG (l.take n) + cG l[n] <= 50000000 := by rw [← Qas cG l n hlt]; exact Nat.le_trans (Qcl cG l (n + 1)) Hc.out
    have Hsn := hidP (Qas cG l n hlt)
    generalize hx : l[n] = x at c0 c1 c2 c3 hit hsu hcn hge Hsn
    obtain ⟨xg, x1, xc1, xm, x2, xc2, xb, x3, xc3, xo⟩ := x
    simp only at c0 c1 c2 c3 hit
    have O1 := hown.out.set1 Qar n (by omega) ⟨z, x1, xc1, xm, x2, xc2, xb, x3, xc3, xo⟩ 0 (by decide) (.int .i64 z) (by rw [hge]; rfl) (fun W S h => by rw [hge] at h; exact h)
    simp only [Nat.add_zero, show Cel.k GC = 4 from rfl] at O1
    have Hhl := hidP hhl
    have Hsu := hidP hsu
    have Hcn := hidP hcn
    have HO1 := hidP O1
    have hsub := O1.sub n (by simp; omega)
    rw [List.getElem_set_self] at hsub
    obtain ⟨S1, S2, S3, i1, i2, i3, e1, e2, e3, s1, s2, s3⟩ := hsub
    have hlen : n < ((half mG cG l k n).set n ⟨z, x1, xc1, xm, x2, xc2, xb, x3, xc3, xo⟩).length := by rw [List.length_set]; omega
    have Hlen := hidP hlen
    have H1 := hidP s1
    have H2 := hidP s2
    have H3 := hidP s3
    have hzc : z + 1 + xm.length + xb.length + xo.length <= 100000000 := by
     have h3 := hz.out; have h4 := Hcn.out; simp only [cG] at h4; omega
    clear hx hhl hsu hcn O1 hge hth s1 s2 s3 hlen
    go_wp2_with fail
    refine (Qcw x1 xc1 xm S1 (z + 1) (by omega) (by omega) (by omega) _ H1.out).mono ?_
    rintro e w1 ⟨rfl, k1, t1⟩
    have O2 := HO1.out.turn Qar n Hlen.out ⟨z, x1, xc1, Qae xm.length (z + 1), x2, xc2, xb, x3, xc3, xo⟩ (by rw [List.getElem_set_self]; simp only [Cel.cs, Qan, mG]) (k1.mono i1) ⟨S1, S2, S3, i1, i2, i3, e1, e2, e3, t1, H2.out.offp k1 (fun y h h' => e1 y h' h), H3.out.offp k1 (fun y h h' => e2 y h' h)⟩
    rw [List.set_set] at O2
    obtain ⟨_, _, c2', c3'⟩ := O2.lst.getGC n (by simp; have := Hhl.out; omega)
    simp only [List.getElem_set_self] at c2' c3'
    have HO2 := hidP O2
    have Hk1 := hidP k1
    have Ht1 := hidP t1
    clear c0 c1 c2 c3 O2 k1 t1
    go_wp2_with fail
    refine (Qcw x2 xc2 xb S2 _ (by omega) (by omega) (by omega) _ (H2.out.offp Hk1.out (fun y h h' => e1 y h' h))).mono ?_
    rintro e w2 ⟨rfl, k2, t2⟩
    have O3 := HO2.out.turn Qar n (by rw [List.length_set]; have := Hhl.out; omega) ⟨z, x1, xc1, Qae xm.length (z + 1), x2, xc2, Qae xb.length (z + 1 + xm.length), x3, xc3, xo⟩ (by rw [List.getElem_set_self]; simp only [Cel.cs, Qan, mG]) (k2.mono i2) ⟨S1, S2, S3, i1, i2, i3, e1, e2, e3, Ht1.out.offp k2 e1, t2, (H3.out.offp Hk1.out (fun y h h' => e2 y h' h)).offp k2 (fun y h h' => e3 y h' h)⟩
    rw [List.set_set] at O3
    obtain ⟨_, _, _, c3⟩ := O3.lst.getGC n (by simp; have := Hhl.out; omega)
    simp only [List.getElem_set_self] at c3
    have HO3 := hidP O3
    have Hk2 := hidP k2
    have Ht2 := hidP t2
    clear c2' c3' O3 k2 t2
    go_wp2_with fail
    refine (Qcw x3 xc3 xo S3 _ (by omega) (by omega) (by omega) _ ((H3.out.offp Hk1.out (fun y h h' => e2 y h' h)).offp Hk2.out (fun y h h' => e3 y h' h))).mono ?_
    rintro e w3 ⟨rfl, k3, t3⟩
    have O4 := HO3.out.turn Qar n (by rw [List.length_set]; have := Hhl.out; omega) (mG ⟨xg, x1, xc1, xm, x2, xc2, xb, x3, xc3, xo⟩ z) (by rw [List.getElem_set_self]; simp only [Cel.cs, Qan, mG]) (k3.mono i3) ⟨S1, S2, S3, i1, i2, i3, e1, e2, e3, (Ht1.out.offp Hk2.out e1).offp k3 e2, Ht2.out.offp k3 e3, t3⟩
    rw [List.set_set, ← Hsu.out] at O4
    have HO4 := hidP O4
    have Hk3 := hidP k3
    clear O4 k3 t3
    go_wp2
    have hz' := hz.out
    refine ⟨⟨n + 1, z + 1 + (xm.length : Int) + (xb.length : Int) + (xo.length : Int), by go_num, rfl, by omega, by omega, by omega, ?_, ?_, HO4.out⟩, by simp [intOf]; omega⟩
    . show _ = _; rw [Hsn.out, hz']; simp only [cG]; omega
    . exact (((hoff.out.set (.inl rfl) _ _).trans (Hk1.out.mono (fun x hx => .inr ⟨n, i1 x hx⟩))).trans (Hk2.out.mono (fun x hx => .inr ⟨n, i2 x hx⟩))).trans (Hk3.out.mono (fun x hx => .inr ⟨n, i3 x hx⟩))
  . obtain rfl : n = l.length := by omega
    go_wp2
    go_ret
    have e := hz.out
    rw [Qb6 cG l _ (Nat.le_refl _)] at e
    have hh := hown.out
    rw [Qev mG cG l k _ (Nat.le_refl _)] at hh
    subst e
    exact ⟨rfl, hoff.out, hh⟩
theorem Qhp {W : World} {a : Option Addr} {q : Nat} {z : Int} (h : At W a (Qae q z)) : q = 0 ∨ ∃ b o, a = some ⟨b, o, none⟩ /\ b < W.heap.size /\ In W b o (Qae q z) :=
 h.imp (fun e => by have := congrArg List.length e; rw [Qan] at this; simpa using this) id
theorem Qgb (A : Option Addr) (cap : Nat) (l : List GC) (k : Int) (hk : 1 <= k) (hk' : k <= 50000000) (hc : Qac cG l <= 50000000) (hl : l.length <= 1048576) (hs : ∀ x ∈ l, x.m.length <= 1048576 /\ x.b.length <= 1048576 /\ x.o.length <= 1048576) (w : World) (hA : At w A (marked mG cG l k)) (hE : EachG w (marked mG cG l k)) :
 Calls Tryz.prog 74 #[.slice A l.length cap, .int .i64 k] w fun e w' => e = .returned (.int .i64 (k + (Qac cG l : Int))) /\ Below w.heap.size w w' := by
 have HA := hidP hA
 have HE := hidP hE
 have Hs := hidP hs
 have Hc := hidP hc
 clear hA hE hs hc
 have HML := hidP (Qa8 mG cG l k)
 go_enter Tryz.func74, Tryz.ntmps74
 go_wp2
 go_loopw [1, 5] (fun kk i w' => ∃ (n : Nat) (z : Int), i = .int .i64 (n : Int) /\ kk = .int .i64 z /\ n <= l.length /\ 1 <= z /\ z <= 100000000 /\ Hid (z = k + (Qac cG (l.take n) : Int)) /\ Below w.heap.size w w') (fun _ i _ => l.length - (intOf i).toNat)
 case atStart => exact ⟨0, k, rfl, rfl, by omega, hk, by omega, by simp [Hid, Qac], Below.refl _ _⟩
 case round =>
  obtain ⟨n, z, rfl, rfl, hn, hz1, hz2, hz, hbl⟩ := hrel
  by_cases hlt : n < l.length
  . have hml := HML.out
    obtain ⟨b, o, rfl, hbs, hin⟩ : ∃ b o, A = some ⟨b, o, none⟩ /\ b < w.heap.size /\ In w b o (marked mG cG l k) := by
     rcases HA.out with h | h
     . rw [h] at hml; simp at hml; omega
     . exact h
    have hmn : n < (marked mG cG l k).length := by omega
    have hge := Qdf mG cG l n hlt k hmn
    rw [← hz.out] at hge
    obtain ⟨c0, c1, c2, c3⟩ := (hin.below hbs hbl).getGC n hmn
    have hat := (HE.out _ (List.getElem_mem hmn)).below hbl
    rw [hge] at c0 c1 c2 c3 hat
    have hit := Hs.out _ (List.getElem_mem hlt)
    have hcn : Qac cG (l.take n) + cG l[n] <= 50000000 := by rw [← Qas cG l n hlt]; exact Nat.le_trans (Qcl cG l (n + 1)) Hc.out
    have Hsn := hidP (Qas cG l n hlt)
    generalize hx : l[n] = x at c0 c1 c2 c3 hit hcn hat Hsn
    obtain ⟨xg, x1, xc1, xm, x2, xc2, xb, x3, xc3, xo⟩ := x
    simp only [mG, Qan] at c0 c1 c2 c3 hit
    simp only [mG, atG] at hat
    have Hat := hidP hat
    have Hcn := hidP hcn
    have hzc : z + 1 + xm.length + xb.length + xo.length <= 100000000 := by
     have h3 := hz.out; have h4 := Hcn.out; simp only [cG] at h4; omega
    have hb1 : b < wr.heap.size := Nat.lt_of_lt_of_le hbs hbl.size
    clear hml hge hx hcn hat
    have n1 : ¬ z + 1 + (xm.length : Int) < 0 := by omega
    have n2 : ¬ z + 1 + (xm.length : Int) + (xb.length : Int) < 0 := by omega
    have n3 : ¬ z + 1 + (xm.length : Int) + (xb.length : Int) + (xo.length : Int) < 0 := by omega
    go_wp2_with fail
    refine (Qb3 x1 xc1 xm.length (z + 1) (by omega) (by omega) (by omega) _ (Qhp Hat.out.1)).mono ?_
    rintro e w1 ⟨rfl, g1⟩
    obtain ⟨k1, m1⟩ := Qaj g1
    have q1 := Nat.lt_of_lt_of_le hb1 g1.size
    go_wp2_with fail
    refine (Qb3 x2 xc2 xb.length (z + 1 + (xm.length : Int)) (by omega) (by omega) (by omega) _ (Qhp (Hat.out.2.1.below g1))).mono ?_
    rintro e w2 ⟨rfl, g2⟩
    obtain ⟨k2, m2⟩ := Qaj g2
    have q2 := Nat.lt_of_lt_of_le q1 g2.size
    go_wp2_with fail
    refine (Qb3 x3 xc3 xo.length (z + 1 + (xm.length : Int) + (xb.length : Int)) (by omega) (by omega) (by omega) _ (Qhp ((Hat.out.2.2.below g1).below g2))).mono ?_
    rintro e w3 ⟨rfl, g3⟩
    go_wp2
    have hz' := hz.out
    refine ⟨⟨n + 1, z + 1 + (xm.length : Int) + (xb.length : Int) + (xo.length : Int), by go_num, rfl, by omega, by omega, by omega, ?_, via0 g3 (via0 g2 (via0 g1 hbl))⟩, by simp [intOf]; omega⟩
    show _ = _; rw [Hsn.out, hz']; simp only [cG]; omega
  . obtain rfl : n = l.length := by omega
    go_wp2
    go_ret
    have e := hz.out
    rw [Qb6 cG l _ (Nat.le_refl _)] at e
    subst e
    exact ⟨rfl, hbl⟩
end Go.Proofs.YtlcjaabnfdnfmaaGreatDoor.Gen
namespace Go.Proofs.YtlcjaabnfdnfmaaGreatDoor.Gen
open ChangeShapes WideShapes ChangeAt RowKit Joins Deep Base
def makP (w : World) (x : MC) (S : Nat -> Prop) : Prop := Sub w x.A x.ms S
theorem Qaz : Firm makP := fun w w' x S T h k hd => Sub.offp h k hd
theorem makP_each {S : Nat -> Prop} {w : World} {a : Option Addr} {l : List MC} (h : Own makP w a l S) : Each w l := h.each (fun x S hx => Sub.at hx)
def cM (x : MC) : Nat := 4 + x.ms.length * 2
def mM (x : MC) (z : Int) : MC := ⟨z, z + 1, z + 2, z + 3, x.A, x.cap, Qa6 x.ms.length (z + 4)⟩
theorem mark_marks (a : Option Addr) (cap : Nat) (l : List Mk) (S : Nat -> Prop) (k : Int) (hk : 1 <= k) (hk' : k <= 100000000) (hl : l.length <= 2000000) (w : World) (h : Sub w a l S) :
 Calls Tryz.prog 121 #[.slice a l.length cap, .int .i64 k] w fun e w' => e = .returned (.int .i64 (k + (l.length : Int) * 2)) /\ Offp S w w' /\ Sub w' a (Qa6 l.length k) S := by
 rcases h with rfl | ⟨b, o, rfl, hS, hb, hi, ht⟩
 . refine (Qiu a cap k w).mono ?_
   rintro e w' ⟨rfl, rfl⟩
   exact ⟨by simp, Offp.refl _ _, .inl rfl⟩
 . refine (Qka b o cap l.length k hk hk' hl w hb ht).mono ?_
   rintro e w' ⟨rfl, ko, hin, hth⟩
   exact ⟨rfl, (Offp.of_only ko).mono (fun x e => e ▸ hS), .inr ⟨b, o, rfl, hS, Nat.lt_of_lt_of_le hb ko.size, hin, by rw [Qbb]; exact hth⟩⟩
theorem Qf0 (b o cap : Nat) (l : List MC) (fp : Nat -> Nat -> Prop) (k : Int) (hk : 1 <= k) (hk' : k <= 50000000) (hc : Qac cM l <= 50000000) (hl : l.length <= 1048576) (hs : ∀ x ∈ l, x.ms.length <= 1048576) (w : World) (hO : OwnF makP w b o l fp) :
 Calls Tryz.prog 65 #[.slice (some ⟨b, o, none⟩) l.length cap, .int .i64 k] w fun e w' => e = .returned (.int .i64 (k + (Qac cM l : Int))) /\ Offp (fun x => x = b ∨ ∃ i, fp i x) w w' /\ OwnF makP w' b o (marked mM cM l k) fp := by
 have HO := hidP hO
 have Hs := hidP hs
 have Hc := hidP hc
 clear hO hs hc
 go_enter Tryz.func65, Tryz.ntmps65
 go_wp2
 go_loopw [1, 5] (fun kk i w' => ∃ (n : Nat) (z : Int), i = .int .i64 (n : Int) /\ kk = .int .i64 z /\ n <= l.length /\ 1 <= z /\ z <= 100000000 /\ Hid (z = k + (Qac cM (l.take n) : Int)) /\ Hid (Offp (fun x => x = b ∨ ∃ i, fp i x) w w') /\ Hid (OwnF makP w' b o (half mM cM l k n) fp)) (fun _ i _ => l.length - (intOf i).toNat)
 case atStart => exact ⟨0, k, rfl, rfl, by omega, hk, by omega, by simp [Hid, Qac], Offp.refl _ _, by rw [Qdz]; exact HO.out⟩
 case round =>
  obtain ⟨n, z, rfl, rfl, hn, hz1, hz2, hz, hoff, hown⟩ := hrel
  by_cases hlt : n < l.length
  . have hhl := Qc3 mM cM l k n
    have hge := Qeu mM cM l k n hlt (by omega)
    have hit := Hs.out _ (List.getElem_mem hlt)
    obtain ⟨c0, c1, c2, c3, c4⟩ := hown.out.lst.getMC n (by omega)
    have hth := hown.out.th
    rw [hhl] at hth
    obtain ⟨_, f0⟩ := Qaf (f := 0) hth hlt (by decide)
    obtain ⟨_, f1⟩ := Qaf (f := 1) hth hlt (by decide)
    obtain ⟨_, f2⟩ := Qaf (f := 2) hth hlt (by decide)
    obtain ⟨_, f3⟩ := Qaf (f := 3) hth hlt (by decide)
    simp only [Nat.add_zero, show Cel.k MC = 5 from rfl] at f0 f1 f2 f3
    rw [hge] at c0 c1 c2 c3 c4
    have hsu := Qd0 mM cM l k n hlt
    rw [← hz.out] at hsu
    have hcn : Qac cM (l.take n) + cM l[n] <= 50000000 := by rw [← Qas cM l n hlt]; exact Nat.le_trans (Qcl cM l (n + 1)) Hc.out
    have Hsn := hidP (Qas cM l n hlt)
    generalize hx : l[n] = x at c0 c1 c2 c3 c4 hit hsu hcn hge Hsn
    obtain ⟨xr, xw, xe, xl, xA, xc, xi⟩ := x
    simp only at c0 c1 c2 c3 c4 hit
    have O1 := hown.out.set1 Qaz n (by omega) ⟨z, xw, xe, xl, xA, xc, xi⟩ 0 (by decide) (.int .i64 z) (by rw [hge]; rfl) (fun W S h => by rw [hge] at h; exact h)
    have O2 := O1.set1 Qaz n (by simp; omega) ⟨z, z + 1, xe, xl, xA, xc, xi⟩ 1 (by decide) (.int .i64 (z + 1)) (by rw [List.getElem_set_self]; rfl) (fun W S h => by rw [List.getElem_set_self] at h; exact h)
    have O3 := O2.set1 Qaz n (by simp; omega) ⟨z, z + 1, z + 1 + 1, xl, xA, xc, xi⟩ 2 (by decide) (.int .i64 (z + 1 + 1)) (by rw [List.getElem_set_self]; rfl) (fun W S h => by rw [List.getElem_set_self] at h; exact h)
    have O4 := O3.set1 Qaz n (by simp; omega) ⟨z, z + 1, z + 1 + 1, z + 1 + 1 + 1, xA, xc, xi⟩ 3 (by decide) (.int .i64 (z + 1 + 1 + 1)) (by rw [List.getElem_set_self]; rfl) (fun W S h => by rw [List.getElem_set_self] at h; exact h)
    simp only [Nat.add_zero, show Cel.k MC = 5 from rfl, List.set_set] at O4
    have Hhl := hidP hhl
    have Hsu := hidP hsu
    have Hcn := hidP hcn
    have HO2 := hidP O4
    have hsub := O4.sub n (by simp; omega)
    rw [List.getElem_set_self] at hsub
    have Hsub := hidP hsub
    have hz' := hz.out
    have hzc : z + 4 <= 100000000 := by
     have h3 := Hcn.out; simp only [cM] at h3; omega
    clear hx hhl hsu hcn O1 O2 O3 O4 hsub hge hth hz'
    go_wp2_with fail
    refine (mark_marks xA xc xi (fp n) _ (by omega) (by omega) (by omega) _ Hsub.out).mono ?_
    rintro e w1 ⟨rfl, ko, hsb⟩
    have hlim : xi.length * 2 + 4 <= 50000000 := by have := Hcn.out; simp only [cM] at this; omega
    go_wp2
    have hz' := hz.out
    have e2 : z + 1 + 1 = z + 2 := by omega
    have e3 : z + 1 + 1 + 1 = z + 3 := by omega
    have e4 : z + 1 + 1 + 1 + 1 = z + 4 := by omega
    have hcs : Cel.cs (mM ⟨xr, xw, xe, xl, xA, xc, xi⟩ z) = Cel.cs (⟨z, z + 1, z + 1 + 1, z + 1 + 1 + 1, xA, xc, xi⟩ : MC) := by
     simp only [Cel.cs, mM, Qbb, e2, show z + 2 + 1 = z + 3 by omega]
    have hsb' : makP w1 (mM ⟨xr, xw, xe, xl, xA, xc, xi⟩ z) (fp n) := by
     rw [e4] at hsb
     exact hsb
    have O3 := HO2.out.turn Qaz n (by rw [List.length_set]; have := Hhl.out; omega) (mM ⟨xr, xw, xe, xl, xA, xc, xi⟩ z) (by rw [List.getElem_set_self]; exact hcs) ko hsb'
    rw [List.set_set, ← Hsu.out] at O3
    refine ⟨⟨n + 1, z + 1 + 1 + 1 + 1 + (xi.length : Int) * 2, by go_num, rfl, by omega, by omega, ?_, ?_, ?_, O3⟩, by simp [intOf]; omega⟩
    . have := Hcn.out; simp only [cM] at this; omega
    . show _ = _; rw [Hsn.out, hz']; simp only [cM]; omega
    . exact ((((hoff.out.set (.inl rfl) _ _).set (.inl rfl) _ _).set (.inl rfl) _ _).set (.inl rfl) _ _).trans (ko.mono (fun x hx => .inr ⟨n, hx⟩))
  . obtain rfl : n = l.length := by omega
    go_wp2
    go_ret
    have e := hz.out
    rw [Qb6 cM l _ (Nat.le_refl _)] at e
    have hh := hown.out
    rw [Qev mM cM l k _ (Nat.le_refl _)] at hh
    subst e
    exact ⟨rfl, hoff.out, hh⟩
theorem Qga (A : Option Addr) (cap : Nat) (l : List MC) (k : Int) (hk : 1 <= k) (hk' : k <= 50000000) (hc : Qac cM l <= 50000000) (hl : l.length <= 1048576) (hs : ∀ x ∈ l, x.ms.length <= 1048576) (w : World) (hA : At w A (marked mM cM l k)) (hE : Each w (marked mM cM l k)) :
 Calls Tryz.prog 73 #[.slice A l.length cap, .int .i64 k] w fun e w' => e = .returned (.int .i64 (k + (Qac cM l : Int))) /\ Below w.heap.size w w' := by
 have HA := hidP hA
 have HE := hidP hE
 have Hs := hidP hs
 have Hc := hidP hc
 clear hA hE hs hc
 have HML := hidP (Qa8 mM cM l k)
 go_enter Tryz.func73, Tryz.ntmps73
 go_wp2
 go_loopw [1, 5] (fun kk i w' => ∃ (n : Nat) (z : Int), i = .int .i64 (n : Int) /\ kk = .int .i64 z /\ n <= l.length /\ 1 <= z /\ z <= 100000000 /\ Hid (z = k + (Qac cM (l.take n) : Int)) /\ Below w.heap.size w w') (fun _ i _ => l.length - (intOf i).toNat)
 case atStart => exact ⟨0, k, rfl, rfl, by omega, hk, by omega, by simp [Hid, Qac], Below.refl _ _⟩
 case round =>
  obtain ⟨n, z, rfl, rfl, hn, hz1, hz2, hz, hbl⟩ := hrel
  by_cases hlt : n < l.length
  . have hml := HML.out
    obtain ⟨b, o, rfl, hbs, hin⟩ : ∃ b o, A = some ⟨b, o, none⟩ /\ b < w.heap.size /\ In w b o (marked mM cM l k) := by
     rcases HA.out with h | h
     . rw [h] at hml; simp at hml; omega
     . exact h
    have hmn : n < (marked mM cM l k).length := by omega
    have hge := Qdf mM cM l n hlt k hmn
    rw [← hz.out] at hge
    obtain ⟨c0, c1, c2, c3, c4⟩ := (hin.below hbs hbl).getMC n hmn
    have hat := (HE.out _ (List.getElem_mem hmn)).below hbl
    rw [hge] at c0 c1 c2 c3 c4 hat
    have hit := Hs.out _ (List.getElem_mem hlt)
    have hcn : Qac cM (l.take n) + cM l[n] <= 50000000 := by rw [← Qas cM l n hlt]; exact Nat.le_trans (Qcl cM l (n + 1)) Hc.out
    have Hsn := hidP (Qas cM l n hlt)
    generalize hx : l[n] = x at c0 c1 c2 c3 c4 hit hcn hat Hsn
    obtain ⟨xr, xw, xe, xl, xA, xc, xi⟩ := x
    simp only [mM, Qbb] at c0 c1 c2 c3 c4 hit hat
    have e3 : z + 3 = z + 1 + 1 + 1 := by omega
    have e2 : z + 2 = z + 1 + 1 := by omega
    rw [e3] at c3
    rw [e2] at c2
    clear e2 e3
    have HAt : Hid (xi.length = 0 ∨ ∃ b o, xA = some ⟨b, o, none⟩ /\ b < wr.heap.size /\ In wr b o (Qa6 xi.length (z + 1 + 1 + 1 + 1))) := by
     have e2 : z + 1 + 1 + 1 + 1 = z + 4 := by omega
     rw [e2]
     rcases hat with h | h
     . exact .inl (by have := congrArg List.length h; simpa [Qbb] using this)
     . exact .inr h
    have Hcn := hidP hcn
    have hzc : z + 4 <= 100000000 := by
     have h3 := hz.out; have h4 := Hcn.out; simp only [cM] at h4; omega
    have hlim : xi.length * 2 + 4 <= 50000000 := by have := Hcn.out; simp only [cM] at this; omega
    clear hml hge hx hcn hat
    have hneg : ¬ z + 1 + 1 + 1 + 1 + (xi.length : Int) * 2 < 0 := by omega
    go_wp2_with fail
    refine (Qkj xA xc xi.length (z + 1 + 1 + 1 + 1) (by omega) (by omega) (by omega) _ HAt.out).mono ?_
    rintro e w1 ⟨rfl, rfl⟩
    go_wp2
    have hz' := hz.out
    refine ⟨⟨n + 1, z + 1 + 1 + 1 + 1 + (xi.length : Int) * 2, by go_num, rfl, by omega, by omega, ?_, ?_, hbl⟩, by simp [intOf]; omega⟩
    . have := Hcn.out; simp only [cM] at this; omega
    . show _ = _; rw [Hsn.out, hz']; simp only [cM]; omega
  . obtain rfl : n = l.length := by omega
    go_wp2
    go_ret
    have e := hz.out
    rw [Qb6 cM l _ (Nat.le_refl _)] at e
    subst e
    exact ⟨rfl, hbl⟩
end Go.Proofs.YtlcjaabnfdnfmaaGreatDoor.Gen
